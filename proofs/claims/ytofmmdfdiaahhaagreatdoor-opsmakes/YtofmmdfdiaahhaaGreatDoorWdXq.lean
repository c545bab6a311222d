/- WdMath, WdLow, WdRef, WdRefB, WdWhole, WdNumM, WdA, WdR, as one text. -/
import Derived.Lib.MapLaws
import Derived.Laws.RangeAny
import Derived.Test.YtofmmdfdiaahhaaGreatDoorProg
import Derived.WalkKit
import Derived.ProofKit
import Derived.Laws.IdiomStrings
import Derived.Lib.OthersKept
import Derived.Deep.LoopGhost
import Derived.Deep.RegionWith
import Derived.Deep.DeepMust
import Derived.Deep.RegionHeld3
import Derived.Below
import Derived.Test.YtofmmdfdiaahhaaGreatDoorProg
/- Plain mathematics of the parts of a text: which part a rune is of, and what comes of a text rune by rune. -/
namespace Go.Proofs.YtofmmdfdiaahhaaGreatDoor.Wrd
set_option linter.unusedVariables false

/-- the byte at a place. -/
def bt (s : ByteArray) (i : Nat) : Nat := (s.get! i).toNat

/-- a rune is one byte; or broken; or two to four bytes, all of them above 127. -/
theorem dec_shape (s : ByteArray) (pos : Nat) (h : pos < s.size) :
    (bt s pos < 128 ∧ Utf8.decode s pos = (bt s pos, 1)) ∨
    (128 ≤ bt s pos ∧ Utf8.decode s pos = (65533, 1)) ∨
    (128 ≤ bt s pos ∧ 2 ≤ (Utf8.decode s pos).2 ∧ (Utf8.decode s pos).2 ≤ 4 ∧ pos + (Utf8.decode s pos).2 ≤ s.size ∧ 128 ≤ (Utf8.decode s pos).1 ∧
      (∀ j, 1 ≤ j → j < (Utf8.decode s pos).2 → 128 ≤ bt s (pos + j)) ∧ Lib.runeLen ((Utf8.decode s pos).1 : Int) = ((Utf8.decode s pos).2 : Int)) := by
  have h0 : bt s pos < 256 := UInt8.toNat_lt _
  have h1 : bt s (pos + 1) < 256 := UInt8.toNat_lt _
  have h2 : bt s (pos + 2) < 256 := UInt8.toNat_lt _
  have h3 : bt s (pos + 3) < 256 := UInt8.toNat_lt _
  have e := Lib.decode_at s pos
  change Utf8.decode s pos = Lib.decodeN (s.size - pos) (bt s pos) (bt s (pos + 1)) (bt s (pos + 2)) (bt s (pos + 3)) at e
  rcases Lib.decodeN_shape (s.size - pos) (bt s pos) (bt s (pos + 1)) (bt s (pos + 2)) (bt s (pos + 3)) with ⟨c, q⟩ | ⟨c1, c2, c3, cv, q⟩ | ⟨c1, c2, c3, c4, cv, cs, q⟩ | ⟨c1, c2, c3, c4, c5, cv, cw, q⟩ | q
  · exact .inl ⟨c, e.trans q⟩
  · rw [e, q]
    refine .inr (.inr ⟨by omega, by simp, by simp, by simp; omega, by simp; omega, ?_, ?_⟩)
    · intro j a b
      obtain rfl : j = 1 := by simp at b; omega
      omega
    · unfold Lib.runeLen; dsimp only; repeat' split
      all_goals omega
  · rw [e, q]
    refine .inr (.inr ⟨by omega, by simp, by simp, by simp; omega, by simp; omega, ?_, ?_⟩)
    · intro j a b
      have : j = 1 ∨ j = 2 := by simp at b; omega
      rcases this with rfl | rfl <;> omega
    · unfold Lib.runeLen; dsimp only; repeat' split
      all_goals omega
  · rw [e, q]
    refine .inr (.inr ⟨by omega, by simp, by simp, by simp; omega, by simp; omega, ?_, ?_⟩)
    · intro j a b
      have : j = 1 ∨ j = 2 ∨ j = 3 := by simp at b; omega
      rcases this with rfl | rfl | rfl <;> omega
    · unfold Lib.runeLen; dsimp only; repeat' split
      all_goals omega
  · by_cases c : bt s pos < 128
    · refine .inl ⟨c, ?_⟩
      rw [e]; unfold Lib.decodeN; rw [if_pos c]
    · exact .inr (.inl ⟨by omega, e.trans q⟩)

theorem wd_pos (s : ByteArray) (pos : Nat) : 1 ≤ (Utf8.decode s pos).2 := Lib.width_pos s pos
theorem wd_le (s : ByteArray) (pos : Nat) (h : pos < s.size) : pos + (Utf8.decode s pos).2 ≤ s.size := by
  rcases dec_shape s pos h with ⟨_, e⟩ | ⟨_, e⟩ | ⟨_, _, _, e, _⟩
  · rw [e]; simp only; omega
  · rw [e]; simp only; omega
  · exact e
end Go.Proofs.YtofmmdfdiaahhaaGreatDoor.Wrd

/- Plain mathematics of small letters. -/
namespace Go.Proofs.YtofmmdfdiaahhaaGreatDoor.Wrd
set_option linter.unusedVariables false

def lowC (c : UInt8) : UInt8 := if 65 ≤ c.toNat ∧ c.toNat ≤ 90 then c + 32 else c
def lowB (s : ByteArray) : ByteArray := ⟨s.data.map lowC⟩
/-- small letters up to a place. -/
def lowTo (s : ByteArray) (p : Nat) : List UInt8 := (s.data.toList.take p).map lowC ++ s.data.toList.drop p

theorem sz (s : ByteArray) : s.data.toList.length = s.size := Array.length_toList
theorem low32 (c : UInt8) (h : 65 ≤ c.toNat ∧ c.toNat ≤ 90) : (c + 32).toNat = c.toNat + 32 := by rw [UInt8.toNat_add]; simp; omega
theorem lowTo_get (s : ByteArray) (p j : Nat) : (lowTo s p)[j]? = (s.data.toList[j]?).map (fun c => if j < p then lowC c else c) := by
  unfold lowTo
  by_cases hj : j < s.data.toList.length
  · by_cases h : j < p
    · rw [List.getElem?_append_left (by simp at hj ⊢; omega)]
      simp [h]
    · have hl : ((s.data.toList.take p).map lowC).length = p := by rw [List.length_map, List.length_take]; omega
      rw [List.getElem?_append_right (by rw [hl]; omega), hl, List.getElem?_drop, show p + (j - p) = j by omega]
      simp [h]
  · rw [List.getElem?_eq_none (by simp only [List.length_append, List.length_map, List.length_take, List.length_drop]; omega), List.getElem?_eq_none (by omega)]
    rfl
theorem lowTo_length (s : ByteArray) (p : Nat) : (lowTo s p).length = s.size := by
  unfold lowTo; simp only [List.length_append, List.length_map, List.length_take, List.length_drop, Array.length_toList]; show _ = s.data.size; omega
theorem lowTo_zero (s : ByteArray) : lowTo s 0 = s.data.toList := by simp [lowTo]
theorem lowTo_all (s : ByteArray) (p : Nat) (h : s.size ≤ p) : lowTo s p = (lowB s).data.toList := by
  unfold lowTo lowB
  rw [List.take_of_length_le (by rw [sz]; exact h), List.drop_of_length_le (by rw [sz]; exact h)]
  simp
theorem lowTo_end (s : ByteArray) (p : Nat) (h : ¬ p < s.size) : (⟨(lowTo s p).toArray⟩ : ByteArray) = lowB s := by
  rw [lowTo_all s p (by omega)]

theorem get_lt (s : ByteArray) (k : Nat) (h : k < s.size) : s.get! k = s[k]'h := by
  show s.data[k]! = _
  rw [getElem!_pos s.data k h]
  rfl
theorem bt_get (s : ByteArray) (j : Nat) (h : j < s.size) : s.data.toList[j]? = some (s[j]'h) ∧ (s[j]'h).toNat = bt s j := by
  constructor
  · rw [List.getElem?_eq_getElem (by rw [sz]; exact h)]; rfl
  · unfold bt; rw [get_lt s j h]

/-- a rune that is none of A to Z changes nothing. -/
theorem lowTo_skip (s : ByteArray) (pos : Nat) (h : pos < s.size) (hR : ¬ (65 ≤ (Utf8.decode s pos).1 ∧ (Utf8.decode s pos).1 ≤ 90)) :
    lowTo s (pos + (Utf8.decode s pos).2) = lowTo s pos := by
  have key : ∀ j, pos ≤ j → j < pos + (Utf8.decode s pos).2 → j < s.size → ¬ (65 ≤ bt s j ∧ bt s j ≤ 90) := by
    intro j a b hj
    rcases dec_shape s pos h with ⟨c, e⟩ | ⟨c, e⟩ | ⟨c, _, _, _, _, d, _⟩
    · rw [e] at hR b
      obtain rfl : j = pos := by simp only at b; omega
      exact hR
    · rw [e] at b
      obtain rfl : j = pos := by simp only at b; omega
      omega
    · by_cases q : j = pos
      · subst q; omega
      · have := d (j - pos) (by omega) (by omega)
        rw [show pos + (j - pos) = j by omega] at this
        omega
  apply List.ext_getElem?
  intro j
  rw [lowTo_get, lowTo_get]
  by_cases hj : j < s.size
  · obtain ⟨e1, e2⟩ := bt_get s j hj
    rw [e1]
    simp only [Option.map_some, Option.some.injEq]
    by_cases c1 : j < pos
    · rw [if_pos c1, if_pos (by omega)]
    · rw [if_neg c1]
      by_cases c2 : j < pos + (Utf8.decode s pos).2
      · rw [if_pos c2]
        unfold lowC
        rw [if_neg (by rw [e2]; exact key j (by omega) c2 hj)]
      · rw [if_neg c2]
  · rw [List.getElem?_eq_none (by rw [sz]; omega)]
    rfl
/-- A to Z becomes its small letter. -/
theorem lowTo_put (s : ByteArray) (pos : Nat) (h : pos < s.size) (hR : 65 ≤ (Utf8.decode s pos).1 ∧ (Utf8.decode s pos).1 ≤ 90) :
    (Utf8.decode s pos) = (bt s pos, 1) ∧ (lowTo s pos)[pos]? = some (s[pos]'h) ∧ lowTo s (pos + (Utf8.decode s pos).2) = (lowTo s pos).set pos (s[pos]'h + 32) ∧ (s[pos]'h + 32).toNat = (Utf8.decode s pos).1 + 32 ∧ (s[pos]'h).toNat = (Utf8.decode s pos).1 := by
  obtain ⟨e1, e2⟩ := bt_get s pos h
  rcases dec_shape s pos h with ⟨c, e⟩ | ⟨c, e⟩ | ⟨c, _, _, _, _, d, _⟩
  · have hb : 65 ≤ (s[pos]'h).toNat ∧ (s[pos]'h).toNat ≤ 90 := by rw [e] at hR; simp only at hR; omega
    refine ⟨e, by rw [lowTo_get, e1]; simp, ?_, by rw [low32 _ hb, e, e2], by rw [e, e2]⟩
    apply List.ext_getElem?
    intro j
    rw [e, List.getElem?_set, lowTo_get, lowTo_get]
    by_cases q : pos = j
    · subst q
      rw [if_pos rfl, if_pos (by rw [lowTo_length]; exact h), e1]
      simp only [Option.map_some, Option.some.injEq]
      rw [if_pos (by omega)]
      unfold lowC
      rw [if_pos hb]
    · rw [if_neg q]
      have : (j < pos + 1) = (j < pos) := propext ⟨fun _ => by omega, fun _ => by omega⟩
      simp only [this]
  · rw [e] at hR; simp only at hR; omega
  · omega

end Go.Proofs.YtofmmdfdiaahhaaGreatDoor.Wrd

/- Plain mathematics of the document's own way to part a text: bytes of a rune, then parts by bytes; that it is the program's. -/
namespace Go.Proofs.YtofmmdfdiaahhaaGreatDoor.Wrd
set_option linter.unusedVariables false

end Go.Proofs.YtofmmdfdiaahhaaGreatDoor.Wrd

/- Plain mathematics: the document's way to part a text and the program's way give the same parts. -/
namespace Go.Proofs.YtofmmdfdiaahhaaGreatDoor.Wrd
set_option linter.unusedVariables false

end Go.Proofs.YtofmmdfdiaahhaaGreatDoor.Wrd

/- Plain mathematics: all parts of a text, each at its place, and blanks, are the text. -/
namespace Go.Proofs.YtofmmdfdiaahhaaGreatDoor.Wrd
set_option linter.unusedVariables false

/-! ### two texts with a blank between them -/
end Go.Proofs.YtofmmdfdiaahhaaGreatDoor.Wrd

/- Plain mathematics of digits as a number. -/
namespace Go.Proofs.YtofmmdfdiaahhaaGreatDoor.Wrd
set_option linter.unusedVariables false

/-! ### where a text stands among others -/
/-- the first place whose text is as asked; -1: none. -/
def findF (P : ByteArray → Bool) : Nat → List ByteArray → Int
  | _, [] => -1
  | i, t :: l => if P t = true then (i : Int) else findF P (i + 1) l
theorem findF_step {P : ByteArray → Bool} {l : List ByteArray} {i : Nat} {t : ByteArray} (h : l[i]? = some t) : findF P i (l.drop i) = if P t = true then (i : Int) else findF P (i + 1) (l.drop (i + 1)) := by
  obtain ⟨hl, he⟩ := List.getElem?_eq_some_iff.1 h
  rw [List.drop_eq_getElem_cons hl, he]
  rfl
theorem findF_end {P : ByteArray → Bool} {l : List ByteArray} {i : Nat} (h : ¬ i < l.length) : findF P i (l.drop i) = -1 := by
  rw [List.drop_of_length_le (by omega)]; rfl
def sameB (a b : ByteArray) : Bool := decide (lowB a = lowB b)
def knownB (s : ByteArray) (l : List ByteArray) : Int := findF (fun t => sameB s t) 0 l
end Go.Proofs.YtofmmdfdiaahhaaGreatDoor.Wrd

/- Contracts of word.Lower and word.Same: small letters for A to Z. -/
namespace Go.Proofs.YtofmmdfdiaahhaaGreatDoor.Wrd
open Go.RowKit
set_option linter.unusedVariables false

/-- bytes in a block. -/
def Buf (w : World) (g : Nat) (l : List UInt8) : Prop := g < w.heap.size ∧ ∀ j c, l[j]? = some c → w.cell? ⟨g, j, none⟩ = some (.int .u8 (c.toNat : Int)) ∧ w.frozen? ⟨g, j, none⟩ = false
theorem Buf.keep {w w1 : World} {g : Nat} {l : List UInt8} (h : Buf w g l) (hb : w1.heap[g]? = w.heap[g]?) (hz : w.heap.size ≤ w1.heap.size) : Buf w1 g l :=
  ⟨Nat.lt_of_lt_of_le h.1 hz, fun j c hc => ⟨(World.cell?_of_block (a := ⟨g, j, none⟩) hb).trans (h.2 j c hc).1, (World.frozen?_of_block (a := ⟨g, j, none⟩) hb).trans (h.2 j c hc).2⟩⟩
theorem addr_ne' {b i j : Nat} (h : i ≠ j) : (⟨b, i, none⟩ : Addr) ≠ ⟨b, j, none⟩ := fun e => h (by cases e; rfl)
theorem Buf.set {w : World} {g : Nat} {l : List UInt8} (h : Buf w g l) {pos : Nat} {c : UInt8} (d : UInt8) (hc : l[pos]? = some c) : Buf (w.setCell ⟨g, pos, none⟩ (.int .u8 (d.toNat : Int))) g (l.set pos d) := by
  refine ⟨by simpa [World.setCell] using h.1, fun j x hx => ?_⟩
  rw [List.getElem?_set] at hx
  by_cases e : pos = j
  · subst e
    rw [if_pos rfl, if_pos (List.getElem?_eq_some_iff.1 hc).1] at hx
    simp only [Option.some.injEq] at hx
    subst hx
    exact ⟨World.cell?_setCell_same _ _ _ (h.2 pos c hc).1, by simpa using (h.2 pos c hc).2⟩
  · rw [if_neg e] at hx
    exact ⟨(World.cell?_setCell_other _ _ _ _ (addr_ne' e)).trans (h.2 j x hx).1, by simpa using (h.2 j x hx).2⟩
theorem bytesRow_get (s : ByteArray) (cap j : Nat) (c : UInt8) (h : s.data.toList[j]? = some c) : (bytesRow s cap)[j]? = some (.int .u8 (c.toNat : Int)) ∧ j < (bytesRow s cap).size := by
  have hj : j < s.data.size := by have := (List.getElem?_eq_some_iff.1 h).1; simpa using this
  have e := bytesRow_at s cap j hj
  have hc : s.data[j] = c := by have := (List.getElem?_eq_some_iff.1 h).2; simpa using this
  rw [hc] at e
  exact ⟨e, (Array.getElem?_eq_some_iff.1 e).1⟩
theorem Buf.new (w : World) (s : ByteArray) (cap : Nat) (t : TypeId) : Buf (w.drew.alloc (.cells (bytesRow s cap) t ((bytesRow s cap).size, (bytesRow s cap).size + 1))) w.heap.size s.data.toList := by
  refine ⟨by simp, fun j c hc => ?_⟩
  obtain ⟨e, hj⟩ := bytesRow_get s cap j c hc
  refine ⟨(World.cell?_alloc_mark w.drew _ t _ j).trans e, (World.frozen?_alloc_mark w.drew _ t _ _ j).trans ?_⟩
  simp; omega
theorem iterPos_eq {w : World} {k : Nat} {s : ByteArray} {p : Nat} (h : w.heap[k]? = some (.stringIter s p)) : w.iterPos k = p := by simp [World.iterPos, h]

set_option maxRecDepth 1000000 in
set_option maxHeartbeats 4000000 in
theorem lower_any (s : ByteArray) (hs : s.size ≤ maxLen) (w : World) :
    Calls Tryz.prog 71 #[.string s] w fun e w' => e = .returned (.string (lowB s)) ∧ Below w.heap.size w w' := by
  unfold maxLen at hs
  have hcv : ∀ w0 : World, (convert 9 135 (.string s)).run Tryz.prog w0 = _ := fun w0 => run_bytes_of_string (P := Tryz.prog) w0 9 135 5 s Tryz.underlying9 Tryz.underlying135 Tryz.underlying5
  obtain ⟨cap, hcap⟩ : ∃ cap, cap = grownCap w s.size 0 5 := ⟨_, rfl⟩
  obtain ⟨W0, hW0⟩ : ∃ W0, W0 = w.drew.alloc (.cells (bytesRow s cap) 5 ((bytesRow s cap).size, (bytesRow s cap).size + 1)) := ⟨_, rfl⟩
  have hz0 : W0.heap.size = w.heap.size + 1 := by rw [hW0]; simp
  have B0 : Below w.heap.size w W0 := by rw [hW0]; exact (Below.refl _ _).drew.alloc (by simp) _
  have F0 : Buf W0 w.heap.size s.data.toList := by rw [hW0]; exact Buf.new w s cap 5
  have hcv0 := hcv w
  rw [← hcap, ← hW0] at hcv0
  clear hcv hW0 hcap
  go_enter Tryz.func71, Tryz.ntmps71
  go_wp2_with fail
  go_loopw [] (fun wr => ∃ pos : Nat, pos ≤ s.size ∧ wr.heap[w.heap.size + 1]? = some (.stringIter s pos) ∧ Buf wr w.heap.size (lowTo s pos) ∧ Below w.heap.size w wr) (fun wr => s.size - wr.iterPos (w.heap.size + 1))
  case atStart =>
    refine ⟨0, Nat.zero_le _, ?_, ?_, ?_⟩
    · have := World.iter_heap W0 s 0
      rw [hz0] at this
      exact this
    · rw [lowTo_zero]
      exact F0.keep (Below.heap_alloc _ _ _ (by omega)) (by simp [World.iter])
    · exact B0.alloc (by omega) _
  case round =>
    obtain ⟨pos, hle, hit, F, B⟩ := hrel
    have hpos0 := iterPos_eq hit
    clear B0 F0 hcv0 hz0
    by_cases hp : pos < s.size
    · have hnx : ∀ ty, (Instr.next (.pointer (some ⟨w.heap.size + 1, 0, none⟩)) true ty).run Tryz.prog wr = _ := fun ty => Lib.run_next_any_at wr (w.heap.size + 1) s pos ty hit hp
      have hwd := wd_pos s pos
      have hwl := wd_le s pos hp
      have hit2 := Lib.iterAt_heap wr (w.heap.size + 1) s pos (pos + (Utf8.decode s pos).2) hit
      have B2 := Lib.below_iterAt B (k := w.heap.size + 1) (by omega) s (pos + (Utf8.decode s pos).2)
      have F2 : Buf (wr.iterAt (w.heap.size + 1) s (pos + (Utf8.decode s pos).2)) w.heap.size (lowTo s pos) := F.keep (Lib.iterAt_other _ _ _ _ _ (by omega)) (by rw [Lib.iterAt_size]; exact Nat.le_refl _)
      clear F B hit
      obtain ⟨R, hR⟩ : ∃ R : Int, ((Utf8.decode s pos).1 : Int) = R := ⟨_, rfl⟩
      obtain ⟨W1, hW1⟩ : ∃ W1, W1 = wr.iterAt (w.heap.size + 1) s (pos + (Utf8.decode s pos).2) := ⟨_, rfl⟩
      rw [hR] at hnx
      rw [← hW1] at hnx hit2 B2 F2
      have R0 : 0 ≤ R := by omega
      have R1 : R ≤ 2147483647 := by have := decode_le s pos; omega
      clear hW1
      have HI : Hid (W1.heap[w.heap.size + 1]? = some (.stringIter s (pos + (Utf8.decode s pos).2))) := hit2
      have HB : Hid (Below w.heap.size w W1) := B2
      have HF : Hid (Buf W1 w.heap.size (lowTo s pos)) := F2
      clear hit2 B2 F2
      by_cases hAZ : 65 ≤ R ∧ R ≤ 90
      · obtain ⟨c1, c2⟩ := hAZ
        obtain ⟨q1, q2, q3, q4, q5⟩ := lowTo_put s pos hp (by omega)
        have hcell : W1.cell? ⟨w.heap.size, pos, none⟩ = some (.int .u8 R) := by rw [(HF.out.2 pos _ q2).1, ← hR, q5]
        have hfz : W1.frozen? ⟨w.heap.size, pos, none⟩ = false := (HF.out.2 pos _ q2).2
        have HS : Hid (Buf (W1.setCell ⟨w.heap.size, pos, none⟩ (.int .u8 (R + 32))) w.heap.size (lowTo s (pos + (Utf8.decode s pos).2))) := by
          show Buf _ _ _
          rw [q3]
          have := HF.out.set (s[pos]'hp + 32) q2
          rw [q4] at this
          rw [← hR]
          exact this
        have hpi : (pos : Int) < (s.size : Int) := by omega
        clear hR q1 q2 q3 q4 q5 HF
        go_wp2_with fail
        go_roundw
        case rel =>
          refine ⟨pos + (Utf8.decode s pos).2, hwl, ?_, HS.out, HB.out.setCell (Nat.le_refl _) _⟩
          rw [Below.heap_setCell _ _ _ _ (by simp)]; exact HI.out
        case measure =>
          rw [hpos0, iterPos_eq (p := pos + (Utf8.decode s pos).2) (by rw [Below.heap_setCell _ _ _ _ (by simp)]; exact HI.out)]
          omega
      · have HS : Hid (Buf W1 w.heap.size (lowTo s (pos + (Utf8.decode s pos).2))) := by
          show Buf _ _ _
          rw [lowTo_skip s pos hp (by omega)]
          exact HF.out
        clear hR HF
        go_wp2_with fail
        all_goals first
          | (exfalso; omega)
          | (go_roundw
             case rel => exact ⟨pos + (Utf8.decode s pos).2, hwl, HI.out, HS.out, HB.out⟩
             case measure =>
               rw [hpos0, iterPos_eq HI.out]
               omega)
    · have hnx : ∀ ty, (Instr.next (.pointer (some ⟨w.heap.size + 1, 0, none⟩)) true ty).run Tryz.prog wr = _ := fun ty => Lib.run_next_end_at wr (w.heap.size + 1) s pos ty hit hp
      have hcb := run_convert_bytes_back (P := Tryz.prog) wr 135 9 5 ⟨w.heap.size, 0, none⟩ cap (lowTo s pos) Tryz.underlying135 Tryz.underlying5 Tryz.underlying9 (fun j hj => by
        have := (F.2 j _ (List.getElem?_eq_getElem hj)).1
        by_cases z : j = 0
        · subst z; simpa [Addr.add] using this
        · simpa [Addr.add, z] using this)
      rw [lowTo_length, lowTo_end s pos hp] at hcb
      have HB : Hid (Below w.heap.size w wr) := B
      clear F B hit
      go_wp2_with fail
      go_ret
      exact ⟨rfl, HB.out⟩

theorem toList_eq (a b : ByteArray) : (a.toList == b.toList) = decide (a = b) := by
  rw [Lib.toList_data, Lib.toList_data, Bool.eq_iff_iff, beq_iff_eq, decide_eq_true_eq]
  constructor
  · intro h; cases a; cases b; exact congrArg ByteArray.mk (Array.toList_inj.1 h)
  · intro h; rw [h]
theorem ret_bool {a b : Bool} (h : a = b) : Ending.returned (.bool a) = .returned (.bool b) := by rw [h]

end Go.Proofs.YtofmmdfdiaahhaaGreatDoor.Wrd

/- Contracts of Known and Short, the program's and the reference's, at any slice of texts. -/
namespace Go.Proofs.YtofmmdfdiaahhaaGreatDoor.Wrd
open Go.RowKit
set_option linter.unusedVariables false

/-- texts in memory, from an address on. -/
def TxtA (w : World) (a : Addr) (L : List ByteArray) : Prop := True ∧ ∀ j t, L[j]? = some t → w.cell? (a.add j) = some (.string t)
theorem TxtA.below {w w1 : World} {a : Addr} {L : List ByteArray} (h : TxtA w a L) (hb : Below w.heap.size w w1) : TxtA w1 a L :=
  ⟨trivial, fun j t hj => (hb.cell (World.block_lt_of_cell? w _ (h.2 j t hj))).trans (h.2 j t hj)⟩

set_option maxRecDepth 100000 in
set_option maxHeartbeats 2000000 in
theorem knownA_any (s : ByteArray) (L : List ByteArray) (a : Addr) (cap : Nat) (w : World) (hs : s.size ≤ maxLen) (hL : ∀ (j : Nat) (t : ByteArray), L[j]? = some t → t.size ≤ maxLen) (hcap : L.length ≤ cap) (hcap2 : cap ≤ maxLen) (hT : TxtA w a L) :
    Calls Tryz.prog 46 #[.string s, .slice (some a) L.length cap] w fun e w' => e = .returned (.int .i64 (knownB s L)) ∧ Below w.heap.size w w' := by
  have hs' := hs
  unfold maxLen at hs hcap2
  obtain ⟨G, hG⟩ : ∃ G, knownB s L = G := ⟨_, rfl⟩
  have HG : Hid (findF (fun t => sameB s t) 0 (L.drop 0) = G) := by show _ = _; rw [List.drop_zero, ← hG]; rfl
  rw [hG]
  clear hG
  go_enter Tryz.func46, Tryz.ntmps46
  go_wp2_with fail
  refine (lower_any s hs' _).mono ?_
  rintro e w1 ⟨rfl, B1⟩
  have T1 := hT.below B1
  have HB1 : Hid (Below w.heap.size w w1) := B1
  have HT1 : Hid (TxtA w1 a L) := T1
  clear B1 T1 hT
  go_wp2_with fail
  go_loopw [12] (fun k wr => ∃ i : Nat, i ≤ L.length ∧ k = .int .i64 (i : Int) ∧ Below w.heap.size w wr ∧ TxtA wr a L ∧ Hid (findF (fun t => sameB s t) i (L.drop i) = G)) (fun k _ => L.length - (intOf k).toNat)
  case atStart => exact ⟨0, Nat.zero_le _, rfl, HB1.out, HT1.out, HG⟩
  case round =>
    obtain ⟨i, hi, rfl, B, T, HS⟩ := hrel
    have HB : Hid (Below w.heap.size w wr) := B
    have HT : Hid (TxtA wr a L) := T
    clear HB1 HT1
    by_cases hlt : i < L.length
    · have hlt' : (i : Int) < (L.length : Int) := by omega
      obtain ⟨t, ht⟩ : ∃ t, L[i]? = some t := ⟨L[i]'hlt, List.getElem?_eq_getElem hlt⟩
      have hc : wr.cell? (a.add i) = some (.string t) := T.2 i t ht
      have hts := hL i t ht
      have HE : Hid ((if sameB s t = true then (i : Int) else findF (fun t => sameB s t) (i + 1) (L.drop (i + 1))) = G) := by show _ = _; rw [← HS.out, findF_step ht]
      have i0 : (0 : Int) ≤ (i : Int) := by omega
      have i1 : (i : Int) < 9223372036854775807 := by omega
      clear HS B T ht
      go_wp2_with fail
      refine (lower_any t hts _).mono ?_
      rintro e w2 ⟨rfl, b2⟩
      have HB2 : Hid (Below w.heap.size w w2) := HB.out.trans (b2.mono HB.out.size)
      have HT2 : Hid (TxtA w2 a L) := HT.out.below b2
      clear b2 HB HT hc
      have hse : ((lowB t).toList == (lowB s).toList) = sameB s t := by rw [toList_eq]; unfold sameB; rw [Bool.eq_iff_iff, decide_eq_true_eq, decide_eq_true_eq]; exact ⟨fun h => h.symm, fun h => h.symm⟩
      cases hq : sameB s t with
      | true =>
        have e1 : G = (i : Int) := by rw [← HE.out, if_pos hq]
        rw [hq] at hse
        subst e1
        clear hq
        go_wp2_with fail
        go_ret
        exact ⟨rfl, HB2.out⟩
      | false =>
        have HF : Hid (findF (fun t => sameB s t) (i + 1) (L.drop (i + 1)) = G) := by show _ = _; rw [← HE.out, if_neg (by rw [hq]; decide)]
        rw [hq] at hse
        clear hq
        go_wp2_with fail
        go_roundw
        case rel => exact ⟨i + 1, by omega, by go_num, HB2.out, HT2.out, HF⟩
        case measure => simp [intOf]; omega
    · have hlt' : ¬ (i : Int) < (L.length : Int) := by omega
      have e1 : G = -1 := by rw [← HS.out, findF_end hlt]
      subst e1
      clear B T
      go_wp2_with fail
      go_ret
      exact ⟨rfl, HB.out⟩

end Go.Proofs.YtofmmdfdiaahhaaGreatDoor.Wrd
