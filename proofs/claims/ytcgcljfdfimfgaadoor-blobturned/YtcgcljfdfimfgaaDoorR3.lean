import Derived.Test.YtcgcljfdfimfgaaDoorR2
import Derived.Shelf.Small.Utf8
import Derived.Shelf.Small.Strs
import Derived.Shelf.Small.Wraps
import Derived.Shelf.Strconv.Itoa0
import Derived.Shelf.Strconv.Itoa1
import Derived.Shelf.LaysM
import Derived.Shelf.Strconv.Itoa2
import Derived.Shelf.Strconv.Itoa3
import Derived.Shelf.Strconv.Itoa4
import Derived.Shelf.Strings.Search1
import Derived.Shelf.Strings.Prefix
import Derived.Shelf.Strings.Runes
import Derived.Shelf.Bytes.SlSearch0
import Derived.Shelf.Bytes.SlSmallAll
import Derived.Shelf.Bytes.SlEqualAll
import Derived.Shelf.Bytes.Small
import Derived.Test.YtcgcljfdfimfgaaDoorProg
import Derived.Deep.Cut
import Derived.Lib.SlBytesConst
/- Contract: src.Name. -/
namespace Go.Proofs.YtcgcljfdfimfgaaDoor
open Go.RowKit Lin
set_option linter.unusedVariables false

/-- one of the four signs that a name may bear. -/
def isP (R : Int) : Bool := decide (R = 95) || decide (R = 45) || decide (R = 43) || decide (R = 47)
def nmC (i : Nat) (R : Int) : Bool := isL R || (decide (i ≠ 0) && (isD R || isP R))
theorem nmC_high {R : Int} (h : 128 ≤ R) (i : Nat) : nmC i R = false := by simp [nmC, isL, isD, isP]; omega
def nmF : Nat → List UInt8 → Bool
  | _, [] => true
  | i, c :: l => nmC i (c.toNat : Int) && nmF (i + 1) l
def nameB (s : ByteArray) : Bool := nmF 0 s.data.toList && (decide (s.size ≠ 0) && decide (s.size ≤ 32))
/-- what ContainsRune says of a sign below B. -/
def CRune (B : Int) : Prop := ∀ (R : Int) (w : World), 0 ≤ R → R < B → Calls Tryd.prog 27 #[.string ⟨#[95, 45, 43, 47]⟩, .int .i32 R] w fun e w' => e = .returned (.bool (isP R)) ∧ Below w.heap.size w w'

set_option maxRecDepth 1000000 in
set_option maxHeartbeats 8000000 in
theorem name_any (s : ByteArray) (B : Int) (HCR : Hid (CRune B)) (hsB : Hid (∀ pos, pos < s.size → ((Utf8.decode s pos).1 : Int) < B)) (hs9 : s.size ≤ maxLen) (w : World) :
    Calls Tryd.prog 10 #[.string s] w fun e w' => e = .returned (.bool (nameB s)) ∧ Below w.heap.size w w' := by
  unfold maxLen at hs9
  obtain ⟨G, hG⟩ : ∃ G, nameB s = G := ⟨_, rfl⟩
  rw [hG]
  have HG : Hid ((nmF 0 (s.data.toList.drop 0) && (decide (s.size ≠ 0) && decide (s.size ≤ 32))) = G) := hG
  clear hG
  go_enter Tryd.func10, Tryd.ntmps10
  go_wp2_with fail
  go_loopw [] (fun wr => ∃ pos : Nat, pos ≤ s.size ∧ Hid (wr.heap[w.heap.size]? = some (.stringIter s pos)) ∧ Hid ((nmF pos (s.data.toList.drop pos) && (decide (s.size ≠ 0) && decide (s.size ≤ 32))) = G) ∧ Hid (Below w.heap.size w wr)) (fun wr => s.size - wr.iterPos w.heap.size)
  case atStart => exact ⟨0, Nat.zero_le _, World.iter_heap w s 0, HG, (Below.refl _ _).alloc (Nat.le_refl _) _⟩
  case round =>
    clear HG
    obtain ⟨pos, hle, HI, HG, HB⟩ := hrel
    have hpos0 : Hid (wr.iterPos w.heap.size = pos) := iterPos_at HI.out
    by_cases hp : pos < s.size
    · obtain ⟨c, hc1, hc2⟩ := drop_cons hp
      rw [hc1] at HG
      have hltI : w.heap.size < wr.heap.size := (Array.getElem?_eq_some_iff.1 HI.out).1
      have hRB := hsB.out pos hp
      obtain ⟨R, W1, pos2, hnx, HI1, HB1, HE, R0, RB, hpp⟩ : ∃ (R : Int) (W1 : World) (pos2 : Nat), (∀ ty, (Instr.next (.pointer (some ⟨w.heap.size, 0, none⟩)) true ty).run Tryd.prog wr = .ok (.tuple #[.bool true, .int .i64 (pos : Int), .int .i32 R]) W1) ∧ Hid (W1.heap[w.heap.size]? = some (.stringIter s pos2)) ∧ Hid (Below w.heap.size w W1) ∧ Hid ((nmC pos R && (nmF pos2 (s.data.toList.drop pos2) && (decide (s.size ≠ 0) && decide (s.size ≤ 32)))) = G) ∧ 0 ≤ R ∧ R < B ∧ pos < pos2 ∧ pos2 ≤ s.size := by
        by_cases hasc : c.toNat < 128
        · refine ⟨(c.toNat : Int), wr.iterAt w.heap.size s (pos + 1), pos + 1, ?_, Lib.iterAt_heap wr w.heap.size s pos (pos + 1) HI.out, Lib.below_iterAt HB.out (k := w.heap.size) (Nat.le_refl _) s (pos + 1), ?_, by omega, ?_, by omega, by omega⟩
          · intro ty
            have := Lib.run_next_ascii_at (P := Tryd.prog) wr w.heap.size s pos ty HI.out hp (by rw [hc2]; exact hasc)
            rw [hc2] at this
            exact this
          · show _ = _
            rw [← HG.out, nmF, Bool.and_assoc]
          · have := decode_ascii s pos hp (by rw [hc2]; exact hasc)
            rw [this, hc2] at hRB
            exact hRB
        · have hd := (decode_high s pos hp (by rw [hc2]; omega)).1
          refine ⟨((Utf8.decode s pos).1 : Int), wr.iterAt w.heap.size s (pos + (Utf8.decode s pos).2), pos + (Utf8.decode s pos).2, ?_, Lib.iterAt_heap wr w.heap.size s pos _ HI.out, Lib.below_iterAt HB.out (k := w.heap.size) (Nat.le_refl _) s _, ?_, by omega, hRB, ?_, ?_⟩
          · intro ty
            exact Lib.run_next_any_at wr w.heap.size s pos ty HI.out hp
          · show _ = _
            rw [← HG.out, nmF, nmC_high (by omega), nmC_high (by omega)]; rfl
          · have := Wrd.wd_pos s pos; omega
          · exact Wrd.wd_le s pos hp
      clear HG HI HB hc1 hc2 hRB
      have HL : Hid (∀ w : World, Calls Tryd.prog 25 #[.int .i32 R] w fun e w' => e = .returned (.bool (isL R)) ∧ w' = w) := isLetter_any R
      have HD : Hid (∀ w : World, Calls Tryd.prog 26 #[.int .i32 R] w fun e w' => e = .returned (.bool (isD R)) ∧ w' = w) := isDigit_any R
      have HP : Hid (∀ w : World, Calls Tryd.prog 27 #[.string ⟨#[95, 45, 43, 47]⟩, .int .i32 R] w fun e w' => e = .returned (.bool (isP R)) ∧ Below w.heap.size w w') := fun w => HCR.out R w R0 RB
      unfold nmC at HE
      generalize isL R = b1 at *
      generalize isD R = b2 at *
      generalize isP R = b3 at *
      cases b1 with
      | true =>
        go_wp2_with fail
        refine (HL.out _).mono ?_
        rintro e w2 ⟨rfl, hw2⟩
        obtain rfl := hw2.symm
        clear hw2
        have HE : Hid ((nmF pos2 (s.data.toList.drop pos2) && (decide (s.size ≠ 0) && decide (s.size ≤ 32))) = G) := HE
        go_wp2_with fail
        go_roundw
        case rel => exact ⟨pos2, hpp.2, HI1, HE, HB1⟩
        case measure => rw [hpos0.out, iterPos_at HI1.out]; omega
      | false =>
        go_wp2_with fail
        refine (HL.out _).mono ?_
        rintro e w2 ⟨rfl, hw2⟩
        obtain rfl := hw2.symm
        clear hw2
        by_cases hp0 : pos = 0
        · subst hp0
          have HE2 : G = false := HE.out.symm
          subst HE2
          go_wp2_with fail
          go_ret
          exact ⟨rfl, HB1.out⟩
        · have hp0' : ((pos : Int) == 0) = false := by rw [beq_eq_false_iff_ne]; omega
          have hd0 : decide (pos ≠ 0) = true := by simp [hp0]
          rw [hd0] at HE
          cases b2 with
          | true =>
            go_wp2_with fail
            refine (HD.out _).mono ?_
            rintro e w2 ⟨rfl, hw2⟩
            obtain rfl := hw2.symm
            clear hw2
            have HE : Hid ((nmF pos2 (s.data.toList.drop pos2) && (decide (s.size ≠ 0) && decide (s.size ≤ 32))) = G) := HE
            go_wp2_with fail
            go_roundw
            case rel => exact ⟨pos2, hpp.2, HI1, HE, HB1⟩
            case measure => rw [hpos0.out, iterPos_at HI1.out]; omega
          | false =>
            go_wp2_with fail
            refine (HD.out _).mono ?_
            rintro e w2 ⟨rfl, hw2⟩
            obtain rfl := hw2.symm
            clear hw2
            go_wp2_with fail
            refine (HP.out _).mono ?_
            rintro e w2 ⟨rfl, hb2⟩
            have HB2 : Hid (Below w.heap.size w w2) := HB1.out.trans (hb2.mono HB1.out.size)
            have HI2 : Hid (w2.heap[w.heap.size]? = some (.stringIter s pos2)) := (hb2.block _ (Array.getElem?_eq_some_iff.1 HI1.out).1).trans HI1.out
            clear hb2
            cases b3 with
            | true =>
              have HE : Hid ((nmF pos2 (s.data.toList.drop pos2) && (decide (s.size ≠ 0) && decide (s.size ≤ 32))) = G) := HE
              go_wp2_with fail
              go_roundw
              case rel => exact ⟨pos2, hpp.2, HI2, HE, HB2⟩
              case measure => rw [hpos0.out, iterPos_at HI2.out]; omega
            | false =>
              have HE2 : G = false := HE.out.symm
              subst HE2
              go_wp2_with fail
              go_ret
              exact ⟨rfl, HB2.out⟩
    · have hnx : ∀ ty, (Instr.next (.pointer (some ⟨w.heap.size, 0, none⟩)) true ty).run Tryd.prog wr = _ := fun ty => Lib.run_next_end_at wr w.heap.size s pos ty HI.out hp
      have HE : G = (decide (s.size ≠ 0) && decide (s.size ≤ 32)) := by
        rw [← HG.out, List.drop_of_length_le (by simp; omega)]; rfl
      clear HG HI
      by_cases h0 : s.size = 0
      · have hs0 : s = ⟨#[]⟩ := by apply ByteArray.ext; exact Array.eq_empty_of_size_eq_zero h0
        subst hs0
        have HE2 : G = false := HE
        subst HE2
        clear HE
        go_wp2_with fail
        go_ret
        exact ⟨rfl, HB.out⟩
      · have hs0 : s.toList.isEmpty = false := by rw [ByteArray.toList_eq s, List.isEmpty_eq_false_iff]; intro e; exact h0 (by show s.data.size = 0; rw [← Array.length_toList, e]; rfl)
        have fin : ∀ b : Bool, b = (decide (s.size ≠ 0) && decide (s.size ≤ 32)) → Ending.returned (.bool b) = .returned (.bool (decide (s.size ≠ 0) && decide (s.size ≤ 32))) := fun b h => by rw [h]
        subst HE
        go_wp2_with fail
        go_ret
        exact ⟨fin _ (by simp [h0]; omega), HB.out⟩

end Go.Proofs.YtcgcljfdfimfgaaDoor
/- Contracts of Go's library at this seat's own translation: each is one application of the library's own theorem, proved once over any program. -/
namespace Go.Proofs
open Go.Shelf
def Tryd.lays119_ren : Go.Shelf.Ren := ⟨fun | 119 => 46 | n => n, fun | 21 => 21 | 4 => 4 | n => n, fun | n => n⟩
theorem Tryd.lays119 : Go.Proofs.Lays.n119 Tryd.prog Tryd.lays119_ren := {
  mixed := by kernel_rfl
  f119 := Tryd.func46.trans (congrArg some (by kernel_rfl))
  t4 := Tryd.underlying4
  a4 := Tryd.isAgg4
  z4 := Tryd.sizeOf4
  v4 := Tryd.zeroValue4
  t21 := Tryd.underlying21
  a21 := Tryd.isAgg21
  z21 := Tryd.sizeOf21
  v21 := Tryd.zeroValue21 }
theorem Tryd.utf8_ValidRune (r : Int) (w : World) :
    Calls Tryd.prog 46 #[.int .i32 r] w fun e w' => e = .returned (.bool (Lib.validRune r)) ∧ w' = w := Any.utf8_ValidRune Tryd.lays119 r w
def Tryd.lays137_ren : Go.Shelf.Ren := ⟨fun | 137 => 45 | 217 => 56 | 266 => 64 | n => n, fun | 9 => 9 | 5 => 5 | 3 => 3 | n => n, fun | n => n⟩
theorem Tryd.lays137 : Go.Proofs.Lays.n137 Tryd.prog Tryd.lays137_ren := {
  mixed := by kernel_rfl
  f137 := Tryd.func45.trans (congrArg some (by kernel_rfl))
  f217 := Tryd.func56.trans (congrArg some (by kernel_rfl))
  f266 := Tryd.func64.trans (congrArg some (by kernel_rfl))
  t3 := Tryd.underlying3
  a3 := Tryd.isAgg3
  z3 := Tryd.sizeOf3
  v3 := Tryd.zeroValue3
  t5 := Tryd.underlying5
  a5 := Tryd.isAgg5
  z5 := Tryd.sizeOf5
  v5 := Tryd.zeroValue5
  t9 := Tryd.underlying9
  a9 := Tryd.isAgg9
  z9 := Tryd.sizeOf9
  v9 := Tryd.zeroValue9 }
open Go.RowKit in
theorem Tryd.strings_IndexByte (s : ByteArray) (c : Int) (w : World) :
    Calls Tryd.prog 45 #[.string s, .int .u8 c] w fun e w' => e = .returned (.int .i64 (Lib.indexByte s.data.toList c.toNat.toUInt8)) ∧ w' = w := Any.strings_IndexByte Tryd.lays137 s c w
def Tryd.lays103_ren : Go.Shelf.Ren := ⟨fun | 103 => 78 | 210 => 85 | 206 => 91 | n => n, fun | 9 => 9 | 4 => 4 | 24 => 143 | 3 => 3 | n => n, fun | n => n⟩
theorem Tryd.lays103 : Go.Proofs.Lays.n103 Tryd.prog Tryd.lays103_ren := {
  mixed := by kernel_rfl
  f103 := Tryd.func78.trans (congrArg some (by kernel_rfl))
  f206 := Tryd.func91.trans (congrArg some (by kernel_rfl))
  f210 := Tryd.func85.trans (congrArg some (by kernel_rfl))
  t3 := Tryd.underlying3
  a3 := Tryd.isAgg3
  z3 := Tryd.sizeOf3
  v3 := Tryd.zeroValue3
  t4 := Tryd.underlying4
  a4 := Tryd.isAgg4
  z4 := Tryd.sizeOf4
  v4 := Tryd.zeroValue4
  t9 := Tryd.underlying9
  a9 := Tryd.isAgg9
  z9 := Tryd.sizeOf9
  v9 := Tryd.zeroValue9
  t24 := Tryd.underlying143
  a24 := Tryd.isAgg143
  z24 := Tryd.sizeOf143
  v24 := Tryd.zeroValue143 }
open Go.RowKit in
theorem Tryd.strings_CutPrefix (s p : ByteArray) (w : World) :
    Calls Tryd.prog 78 #[.string s, .string p] w fun e w' => e = .returned (.tuple #[.string ⟨(Lib.trimPrefix s.data.toList p.data.toList).toArray⟩, .bool (Lib.hasPrefix s.data.toList p.data.toList)]) ∧ w' = w := Any.strings_CutPrefix Tryd.lays103 s p w
def Tryd.laysM173_ren : Go.Shelf.Ren := ⟨fun | 173 => 72 | 246 => 77 | 283 => 81 | 284 => 82 | 285 => 83 | 286 => 84 | 129 => 87 | 317 => 86 | 318 => 88 | 319 => 89 | 320 => 90 | 337 => 92 | 338 => 93 | n => n, fun | 2 => 2 | 3 => 3 | 9 => 9 | 4 => 4 | 171 => 147 | 0 => 0 | 53 => 88 | 37 => 35 | 5 => 5 | 173 => 150 | 212 => 153 | 51 => 69 | 20 => 20 | 213 => 154 | 46 => 50 | 232 => 159 | 233 => 160 | n => n, fun | 17 => 2 | 18 => 3 | 19 => 4 | n => n⟩
theorem Tryd.laysM173 : Go.Proofs.LaysM.n173 Tryd.prog Tryd.laysM173_ren := {
  mixed := by kernel_rfl
  f129 := Tryd.func87.trans (congrArg some (by kernel_rfl))
  f173 := Tryd.func72.trans (congrArg some (by kernel_rfl))
  f246 := Tryd.func77.trans (congrArg some (by kernel_rfl))
  f283 := Tryd.func81.trans (congrArg some (by kernel_rfl))
  f284 := Tryd.func82.trans (congrArg some (by kernel_rfl))
  f285 := Tryd.func83.trans (congrArg some (by kernel_rfl))
  f286 := Tryd.func84.trans (congrArg some (by kernel_rfl))
  f317 := Tryd.func86.trans (congrArg some (by kernel_rfl))
  f318 := Tryd.func88.trans (congrArg some (by kernel_rfl))
  f319 := Tryd.func89.trans (congrArg some (by kernel_rfl))
  f320 := Tryd.func90.trans (congrArg some (by kernel_rfl))
  f337 := Tryd.func92.trans (congrArg some (by kernel_rfl))
  f338 := Tryd.func93.trans (congrArg some (by kernel_rfl))
  t0 := Tryd.underlying0
  a0 := Tryd.isAgg0
  z0 := Tryd.sizeOf0
  v0 := Tryd.zeroValue0
  t2 := Tryd.underlying2
  a2 := Tryd.isAgg2
  z2 := Tryd.sizeOf2
  v2 := Tryd.zeroValue2
  t3 := Tryd.underlying3
  a3 := Tryd.isAgg3
  z3 := Tryd.sizeOf3
  v3 := Tryd.zeroValue3
  t4 := Tryd.underlying4
  a4 := Tryd.isAgg4
  z4 := Tryd.sizeOf4
  v4 := Tryd.zeroValue4
  t5 := Tryd.underlying5
  a5 := Tryd.isAgg5
  z5 := Tryd.sizeOf5
  v5 := Tryd.zeroValue5
  t9 := Tryd.underlying9
  a9 := Tryd.isAgg9
  z9 := Tryd.sizeOf9
  v9 := Tryd.zeroValue9
  t20 := Tryd.underlying20
  a20 := Tryd.isAgg20
  z20 := Tryd.sizeOf20
  v20 := Tryd.zeroValue20
  t37 := Tryd.underlying35
  a37 := Tryd.isAgg35
  z37 := Tryd.sizeOf35
  v37 := Tryd.zeroValue35
  t46 := Tryd.underlying50
  a46 := Tryd.isAgg50
  z46 := Tryd.sizeOf50
  v46 := Tryd.zeroValue50
  t51 := Tryd.underlying69
  a51 := Tryd.isAgg69
  z51 := Tryd.sizeOf69
  v51 := Tryd.zeroValue69
  t53 := Tryd.underlying88
  a53 := Tryd.isAgg88
  z53 := Tryd.sizeOf88
  v53 := Tryd.zeroValue88
  t171 := Tryd.underlying147
  a171 := Tryd.isAgg147
  z171 := Tryd.sizeOf147
  v171 := Tryd.zeroValue147
  t173 := Tryd.underlying150
  a173 := Tryd.isAgg150
  z173 := Tryd.sizeOf150
  v173 := Tryd.zeroValue150
  t212 := Tryd.underlying153
  a212 := Tryd.isAgg153
  z212 := Tryd.sizeOf153
  v212 := Tryd.zeroValue153
  t213 := Tryd.underlying154
  a213 := Tryd.isAgg154
  z213 := Tryd.sizeOf154
  t232 := Tryd.underlying159
  a232 := Tryd.isAgg159
  z232 := Tryd.sizeOf159
  v232 := Tryd.zeroValue159
  t233 := Tryd.underlying160
  a233 := Tryd.isAgg160
  z233 := Tryd.sizeOf160
  v233 := Tryd.zeroValue160
  g17 := by kernel_rfl
  g18 := by kernel_rfl
  g19 := by kernel_rfl
  i0 := by kernel_rfl
  i2 := by kernel_rfl
  i3 := by kernel_rfl
  i4 := by kernel_rfl
  i5 := by kernel_rfl
  i9 := by kernel_rfl
  i20 := by kernel_rfl
  i37 := by kernel_rfl
  i46 := by kernel_rfl
  i51 := by kernel_rfl
  i53 := by kernel_rfl
  i171 := by kernel_rfl
  i173 := by kernel_rfl
  i212 := by kernel_rfl
  i232 := by kernel_rfl
  i233 := by kernel_rfl
  m17 := by kernel_rfl
  m18 := by kernel_rfl
  m19 := by kernel_rfl }
open Go.RowKit Go.Sort Go.Lib in
theorem Tryd.strconv_FormatInt_10 (n : Int) (h0 : -9223372036854775808 ≤ n) (h1 : n ≤ 9223372036854775807) (w : World) (htab : Lib.TabIs Tryd.prog w "internal/strconv.uint64pow10" .u64 Lib.pow10Tab) :
    Calls Tryd.prog 72 #[.int .i64 n, .int .i64 10] w fun e w' => e = .returned (.string ⟨(Lib.itoa n).toArray⟩) ∧ ∃ k os, w' = grow (w.drewN k) os := Any.strconv_FormatInt_10 Tryd.laysM173 n h0 h1 w htab
def Tryd.lays173_ren : Go.Shelf.Ren := ⟨fun | 173 => 72 | 246 => 77 | 283 => 81 | 284 => 82 | 285 => 83 | 286 => 84 | 129 => 87 | 317 => 86 | 318 => 88 | 319 => 89 | 320 => 90 | 337 => 92 | 338 => 93 | n => n, fun | 2 => 2 | 3 => 3 | 9 => 9 | 4 => 4 | 171 => 147 | 0 => 0 | 53 => 88 | 37 => 35 | 5 => 5 | 173 => 150 | 212 => 153 | 51 => 69 | 20 => 20 | 213 => 154 | 46 => 50 | 232 => 159 | 233 => 160 | n => n, fun | 17 => 2 | 18 => 3 | 19 => 4 | n => n⟩
theorem Tryd.lays173 : Go.Proofs.Lays.n173 Tryd.prog Tryd.lays173_ren := {
  mixed := by kernel_rfl
  f129 := Tryd.func87.trans (congrArg some (by kernel_rfl))
  f173 := Tryd.func72.trans (congrArg some (by kernel_rfl))
  f246 := Tryd.func77.trans (congrArg some (by kernel_rfl))
  f283 := Tryd.func81.trans (congrArg some (by kernel_rfl))
  f284 := Tryd.func82.trans (congrArg some (by kernel_rfl))
  f285 := Tryd.func83.trans (congrArg some (by kernel_rfl))
  f286 := Tryd.func84.trans (congrArg some (by kernel_rfl))
  f317 := Tryd.func86.trans (congrArg some (by kernel_rfl))
  f318 := Tryd.func88.trans (congrArg some (by kernel_rfl))
  f319 := Tryd.func89.trans (congrArg some (by kernel_rfl))
  f320 := Tryd.func90.trans (congrArg some (by kernel_rfl))
  f337 := Tryd.func92.trans (congrArg some (by kernel_rfl))
  f338 := Tryd.func93.trans (congrArg some (by kernel_rfl))
  t0 := Tryd.underlying0
  a0 := Tryd.isAgg0
  z0 := Tryd.sizeOf0
  v0 := Tryd.zeroValue0
  t2 := Tryd.underlying2
  a2 := Tryd.isAgg2
  z2 := Tryd.sizeOf2
  v2 := Tryd.zeroValue2
  t3 := Tryd.underlying3
  a3 := Tryd.isAgg3
  z3 := Tryd.sizeOf3
  v3 := Tryd.zeroValue3
  t4 := Tryd.underlying4
  a4 := Tryd.isAgg4
  z4 := Tryd.sizeOf4
  v4 := Tryd.zeroValue4
  t5 := Tryd.underlying5
  a5 := Tryd.isAgg5
  z5 := Tryd.sizeOf5
  v5 := Tryd.zeroValue5
  t9 := Tryd.underlying9
  a9 := Tryd.isAgg9
  z9 := Tryd.sizeOf9
  v9 := Tryd.zeroValue9
  t20 := Tryd.underlying20
  a20 := Tryd.isAgg20
  z20 := Tryd.sizeOf20
  v20 := Tryd.zeroValue20
  t37 := Tryd.underlying35
  a37 := Tryd.isAgg35
  z37 := Tryd.sizeOf35
  v37 := Tryd.zeroValue35
  t46 := Tryd.underlying50
  a46 := Tryd.isAgg50
  z46 := Tryd.sizeOf50
  v46 := Tryd.zeroValue50
  t51 := Tryd.underlying69
  a51 := Tryd.isAgg69
  z51 := Tryd.sizeOf69
  v51 := Tryd.zeroValue69
  t53 := Tryd.underlying88
  a53 := Tryd.isAgg88
  z53 := Tryd.sizeOf88
  v53 := Tryd.zeroValue88
  t171 := Tryd.underlying147
  a171 := Tryd.isAgg147
  z171 := Tryd.sizeOf147
  v171 := Tryd.zeroValue147
  t173 := Tryd.underlying150
  a173 := Tryd.isAgg150
  z173 := Tryd.sizeOf150
  v173 := Tryd.zeroValue150
  t212 := Tryd.underlying153
  a212 := Tryd.isAgg153
  z212 := Tryd.sizeOf153
  v212 := Tryd.zeroValue153
  t213 := Tryd.underlying154
  a213 := Tryd.isAgg154
  z213 := Tryd.sizeOf154
  t232 := Tryd.underlying159
  a232 := Tryd.isAgg159
  z232 := Tryd.sizeOf159
  v232 := Tryd.zeroValue159
  t233 := Tryd.underlying160
  a233 := Tryd.isAgg160
  z233 := Tryd.sizeOf160
  v233 := Tryd.zeroValue160
  g17 := by kernel_rfl
  g18 := by kernel_rfl
  g19 := by kernel_rfl }
open Go.RowKit Go.Sort Go.Lib in
theorem Tryd.strconv_FormatInt_10_small (i : Nat) (hi : i < 100) (w : World) :
    Calls Tryd.prog 72 #[.int .i64 i, .int .i64 10] w fun e w' => e = .returned (.string ⟨(Lib.decDigits i).toArray⟩) ∧ w' = w := Any.strconv_FormatInt_10_small Tryd.lays173 i hi w
def Tryd.lays151_ren : Go.Shelf.Ren := ⟨fun | 151 => 27 | 152 => 42 | 137 => 45 | 119 => 46 | 224 => 47 | 225 => 48 | 217 => 56 | 266 => 64 | n => n, fun | 9 => 9 | 21 => 21 | 4 => 4 | 3 => 3 | 5 => 5 | 0 => 0 | 46 => 50 | n => n, fun | n => n⟩
theorem Tryd.lays151 : Go.Proofs.Lays.n151 Tryd.prog Tryd.lays151_ren := {
  mixed := by kernel_rfl
  f119 := Tryd.func46.trans (congrArg some (by kernel_rfl))
  f137 := Tryd.func45.trans (congrArg some (by kernel_rfl))
  f151 := Tryd.func27.trans (congrArg some (by kernel_rfl))
  f152 := Tryd.func42.trans (congrArg some (by kernel_rfl))
  f217 := Tryd.func56.trans (congrArg some (by kernel_rfl))
  f224 := Tryd.func47.trans (congrArg some (by kernel_rfl))
  f225 := Tryd.func48.trans (congrArg some (by kernel_rfl))
  f266 := Tryd.func64.trans (congrArg some (by kernel_rfl))
  t0 := Tryd.underlying0
  a0 := Tryd.isAgg0
  z0 := Tryd.sizeOf0
  v0 := Tryd.zeroValue0
  t3 := Tryd.underlying3
  a3 := Tryd.isAgg3
  z3 := Tryd.sizeOf3
  v3 := Tryd.zeroValue3
  t4 := Tryd.underlying4
  a4 := Tryd.isAgg4
  z4 := Tryd.sizeOf4
  v4 := Tryd.zeroValue4
  t5 := Tryd.underlying5
  a5 := Tryd.isAgg5
  z5 := Tryd.sizeOf5
  v5 := Tryd.zeroValue5
  t9 := Tryd.underlying9
  a9 := Tryd.isAgg9
  z9 := Tryd.sizeOf9
  v9 := Tryd.zeroValue9
  t21 := Tryd.underlying21
  a21 := Tryd.isAgg21
  z21 := Tryd.sizeOf21
  v21 := Tryd.zeroValue21
  t46 := Tryd.underlying50
  a46 := Tryd.isAgg50
  z46 := Tryd.sizeOf50
  v46 := Tryd.zeroValue50 }
open Go.RowKit Go.Lib in
theorem Tryd.strings_ContainsRune_ascii (s : ByteArray) (r : Int) (w : World) (h0 : 0 ≤ r) (h1 : r < 128) :
    Calls Tryd.prog 27 #[.string s, .int .i32 r] w fun e w' => e = .returned (.bool (decide (0 ≤ Lib.indexByte s.data.toList r.toNat.toUInt8))) ∧ w' = w := Any.strings_ContainsRune_ascii Tryd.lays151 s r w h0 h1
def Tryd.lays115_ren : Go.Shelf.Ren := ⟨fun | 115 => 20 | n => n, fun | 37 => 35 | 4 => 4 | 9 => 9 | 5 => 5 | n => n, fun | n => n⟩
theorem Tryd.lays115 : Go.Proofs.Lays.n115 Tryd.prog Tryd.lays115_ren := {
  mixed := by kernel_rfl
  f115 := Tryd.func20.trans (congrArg some (by kernel_rfl))
  t4 := Tryd.underlying4
  a4 := Tryd.isAgg4
  z4 := Tryd.sizeOf4
  v4 := Tryd.zeroValue4
  t9 := Tryd.underlying9
  a9 := Tryd.isAgg9
  z9 := Tryd.sizeOf9
  v9 := Tryd.zeroValue9
  t37 := Tryd.underlying35
  a37 := Tryd.isAgg35
  z37 := Tryd.sizeOf35
  v37 := Tryd.zeroValue35 }
def Tryd.laysnb141_ren : Go.Shelf.Ren := ⟨fun | 141 => 19 | 116 => 35 | 115 => 20 | n => n, fun | 37 => 35 | 4 => 4 | 3 => 3 | 9 => 9 | 5 => 5 | n => n, fun | n => n⟩
theorem Tryd.laysnb141 : Go.Proofs.Lays.nb141 Tryd.prog Tryd.laysnb141_ren := {
  mixed := by kernel_rfl
  f115 := Tryd.func20.trans (congrArg some (by kernel_rfl))
  f116 := Tryd.func35.trans (congrArg some (by kernel_rfl))
  f141 := Tryd.func19.trans (congrArg some (by kernel_rfl))
  t3 := Tryd.underlying3
  a3 := Tryd.isAgg3
  z3 := Tryd.sizeOf3
  v3 := Tryd.zeroValue3
  t4 := Tryd.underlying4
  a4 := Tryd.isAgg4
  z4 := Tryd.sizeOf4
  v4 := Tryd.zeroValue4
  t9 := Tryd.underlying9
  a9 := Tryd.isAgg9
  z9 := Tryd.sizeOf9
  v9 := Tryd.zeroValue9
  t37 := Tryd.underlying35
  a37 := Tryd.isAgg35
  z37 := Tryd.sizeOf35
  v37 := Tryd.zeroValue35
  t5 := Tryd.underlying5
  a5 := Tryd.isAgg5
  z5 := Tryd.sizeOf5
  v5 := Tryd.zeroValue5 }
theorem Tryd.bytes_Equal (v1 v2 : Value) (xs ys : List Int) (w : World) (h1 : (convert 35 9 v1).run Tryd.prog w = .ok (.string (strOfNums xs)) w) (h2 : (convert 35 9 v2).run Tryd.prog w = .ok (.string (strOfNums ys)) w) :
    Calls Tryd.prog 20 #[v1, v2] w fun e w' => e = .returned (.bool (Lib.bytesOf xs == Lib.bytesOf ys)) ∧ w' = w := Any.bytes_Equal Tryd.lays115 v1 v2 xs ys w h1 h2
theorem Tryd.bytes_CutPrefix (b1 o1 n c b2 o2 m d : Nat) (xs ys : List Int) (w : World) (hx : xs.length = n) (hy : ys.length = m) (hnc : n ≤ c) (hc1 : ∀ i, i < n → w.cell? ⟨b1, o1 + i, none⟩ = some (.int .u8 (xs.getD i 0))) (hc2 : ∀ i, i < m → w.cell? ⟨b2, o2 + i, none⟩ = some (.int .u8 (ys.getD i 0))) :
    Calls Tryd.prog 19 #[.slice (some ⟨b1, o1, none⟩) n c, .slice (some ⟨b2, o2, none⟩) m d] w fun e w' => e = .returned (.tuple #[Lib.bytesTrimPrefix b1 o1 n c xs ys, .bool (Lib.hasPrefix (Lib.bytesOf xs) (Lib.bytesOf ys))]) ∧ w' = w := Any.bytes_CutPrefix Tryd.laysnb141 b1 o1 n c b2 o2 m d xs ys w hx hy hnc hc1 hc2
end Go.Proofs
/- src.Name of the name UTC. -/
namespace Go.Proofs.YtcgcljfdfimfgaaDoor
open Go.RowKit Sr
set_option linter.unusedVariables false

theorem isP_fin : ∀ r : Fin 128, decide (0 ≤ Lib.indexByte [95, 45, 43, 47] ((r.val : Int).toNat.toUInt8)) = isP (r.val : Int) := by decide +kernel
theorem crune128 : CRune 128 := by
  intro R w h0 h1
  refine (Tryd.strings_ContainsRune_ascii ⟨#[95, 45, 43, 47]⟩ R w h0 h1).mono ?_
  rintro e w' ⟨rfl, rfl⟩
  refine ⟨?_, Below.refl _ _⟩
  have := isP_fin ⟨R.toNat, by omega⟩
  simp only [show ((R.toNat : Nat) : Int) = R by omega] at this
  rw [← this]
theorem name_utc (w : World) : Calls Tryd.prog 10 #[.string ⟨#[85, 84, 67]⟩] w fun e w' => e = .returned (.bool true) ∧ Below w.heap.size w w' :=
  name_any ⟨#[85, 84, 67]⟩ 128 crune128 (by
    intro pos hp
    have hp : pos < 3 := hp
    rcases pos with _ | _ | _ | pos
    · decide +kernel
    · decide +kernel
    · decide +kernel
    · omega) (by decide) w

end Go.Proofs.YtcgcljfdfimfgaaDoor
/- Contract: blob.Put of a table that can be, over what pass does. -/
namespace Go.Proofs.YtcgcljfdfimfgaaDoor
open Go.RowKit Sr
set_option linter.unusedVariables false

theorem own_keep9 {w w1 : World} {base : Nat} {e : TypeId} {size : Nat} {v : Value} {n : Nat} {xs : List Value} (h : w.ownsRow base e size v n xs) (hk : Below w.heap.size w w1) : w1.ownsRow base e size v n xs := by
  obtain ⟨h1, h2⟩ := h
  refine ⟨h1, ?_⟩
  rcases h2 with h2 | ⟨g, cap, cur, a, b, c, d⟩
  · exact .inl h2
  · exact .inr ⟨g, cap, cur, a, b, (hk.block g (Array.getElem?_eq_some_iff.1 c).1).trans c, d⟩
theorem cellsB_one (L : List UInt8) : ∀ u ∈ cellsB L, u.oneCell' = true := by
  intro u hu
  simp only [cellsB, List.mem_map] at hu
  obtain ⟨x, _, rfl⟩ := hu
  rfl
theorem cells_rd {W : World} {b : Nat} {L : List UInt8} (h : Bx W b (cellsB L)) : ∀ j u, (cellsB L)[j]? = some u → W.cell? ((⟨b, 0, none⟩ : Addr).add j) = some u := fun j u hu => by
  have := h.c j hu; cases j <;> simpa [Addr.add] using this
def tz40 : List UInt8 := [84, 90, 52, 48]
/-- what pass does with a table, as Put calls it. -/
def PassW (T : List Value) (w : World) (B : List UInt8) : Prop := ∀ (bb pb : Nat) (W : World), Hid ((wPM w bb w.heap.size pb).St W tz40) → W.heap[w.heap.size]? = some (.cells T.toArray 46 (0, 0)) → w.heap.size ≠ bb → w.heap.size ≠ pb →
  Calls Tryd.prog 12 #[.pointer (some ⟨w.heap.size, 0, none⟩), .agg (wPM w bb w.heap.size pb).agg] W fun e W' => (∃ v, e = .returned v) ∧ (wPM w bb w.heap.size pb).St W' B
theorem rd_of_cells {W : World} {ad : Addr} {L : List UInt8} (h : ∀ j u, (cellsB L)[j]? = some u → W.cell? (ad.add j) = some u) : RdB W (some ad) L := fun j x hj => ⟨ad, rfl, h j _ (cellsB_get hj)⟩
/-- what stands while the sum is written. -/
def RS5 (bb : Nat) (v : Value) (W : World) : Prop := Boxed W bb 35 v
theorem RS5.kept {bb : Nat} {v : Value} {W W' : World} {row : Option Nat} (h : RS5 bb v W) (hg : W.grownBy W' row) (hn : some bb ≠ row) : RS5 bb v W' := Boxed.kept h hg hn
theorem RS5.below {bb : Nat} {v : Value} {W W' : World} (h : RS5 bb v W) (k : Below W.heap.size W W') : RS5 bb v W' := blk_below k h

set_option maxRecDepth 100000 in
set_option maxHeartbeats 4000000 in
theorem put_yes (T : List Value) (hT : T.length = 25) (nm : ByteArray) (h0 : T[0]? = some (.string nm)) (w : World) (B : List UInt8) (hB : B.length ≤ 900000)
    (HR : Hid (∀ w : World, Calls Tryd.prog 9 #[.agg T.toArray] w fun e w' => e = .returned (.bool true) ∧ Below w.heap.size w w'))
    (HN : Hid (∀ w : World, Calls Tryd.prog 10 #[.string nm] w fun e w' => e = .returned (.bool true) ∧ Below w.heap.size w w'))
    (HA : Hid (∀ w : World, Calls Tryd.prog 11 #[.agg T.toArray] w fun e w' => e = .returned (.bool true) ∧ Below w.heap.size w w'))
    (HP : Hid (PassW T w B)) :
    Calls Tryd.prog 4 #[.agg T.toArray] w fun e w' => ∃ v, e = .returned (.tuple #[v, .int .i64 0]) ∧ w'.ownsRow w.heap.size 5 1 v (B.length + 4) (cellsB (B ++ beB 4 (smB B))) ∧ Below w.heap.size w w' := by
  obtain ⟨i0, hi, hz0, hz1, hz2⟩ := info_parts infoU8
  have Y1 : Hid ((w.alloc (.cells T.toArray 46)).heap[w.heap.size]? = some (.cells T.toArray 46 (0, 0))) := World.alloc_heap_new w _
  have X1 : Hid (Bx (w.alloc (.cells T.toArray 46)) w.heap.size T) := Bx.new w T 46
  have B1 : Hid (Below w.heap.size w (w.alloc (.cells T.toArray 46))) := (Below.refl _ _).alloc (Nat.le_refl _) _
  go_enter Tryd.func4, Tryd.ntmps4
  generalize hUA : T.toArray = UA at *
  go_upto_region 1 with fail
  refine gen_code (fun V => V.heap[w.heap.size]? = some (.cells UA 46 (0, 0)) ∧ Bx V w.heap.size T ∧ Below w.heap.size w V) ⟨Y1.out, X1.out, B1.out⟩ ?_
  clear X1 B1 Y1
  rintro V ⟨HY, HX, HB⟩
  have HY : Hid (V.heap[w.heap.size]? = some (.cells UA 46 (0, 0))) := HY
  have HX : Hid (Bx V w.heap.size T) := HX
  have HB : Hid (Below w.heap.size w V) := HB
  have c0 := HX.out.c 0 h0
  go_wp2_with (first | (refine wpList_load_mid rfl 46 _ rfl w.heap.size 0 rfl T _ HX.out.all Tryd.underlying46 rfl (by rw [hT]; kernel_rfl) ?_) | fail)
  refine (HR.out _).mono ?_
  rintro e v1 ⟨rfl, hb⟩
  have HY1 : Hid (v1.heap[w.heap.size]? = some (.cells UA 46 (0, 0))) := blk_below hb HY.out
  clear HY
  have HX1 : Hid (Bx v1 w.heap.size T) := HX.out.below hb
  have HB1 : Hid (Below w.heap.size w v1) := HB.out.trans (hb.mono HB.out.size)
  clear HX HB hb c0
  have HX : Hid (Bx v1 w.heap.size T) := HX1
  have HB : Hid (Below w.heap.size w v1) := HB1
  clear HX1 HB1
  have c0 := HX.out.c 0 h0
  go_wp2_with (first | (refine wpList_load_mid rfl 46 _ rfl w.heap.size 0 rfl T _ HX.out.all Tryd.underlying46 rfl (by rw [hT]; kernel_rfl) ?_) | fail)
  refine (HN.out _).mono ?_
  rintro e v2 ⟨rfl, hb⟩
  have HX2 : Hid (Bx v2 w.heap.size T) := HX.out.below hb
  have HB2 : Hid (Below w.heap.size w v2) := HB.out.trans (hb.mono HB.out.size)
  have HY2 : Hid (v2.heap[w.heap.size]? = some (.cells UA 46 (0, 0))) := blk_below hb HY1.out
  clear HX HB hb c0 HY1
  have HX : Hid (Bx v2 w.heap.size T) := HX2
  have HB : Hid (Below w.heap.size w v2) := HB2
  clear HX2 HB2
  have c0 := HX.out.c 0 h0
  go_wp2_with (first | (refine wpList_step fun K hK => ?_; rw [show Region.wanted _ _ = true from by kernel_rfl, if_pos rfl]; refine wp_load_mid 46 _ rfl w.heap.size 0 rfl T _ HX.out.all Tryd.underlying46 rfl (by rw [hT]; kernel_rfl) (hK _ _ ?_)) | fail)
  refine (HA.out _).mono ?_
  rintro e v3 ⟨rfl, hb⟩
  have HX3 : Hid (Bx v3 w.heap.size T) := HX.out.below hb
  have HB3 : Hid (Below w.heap.size w v3) := HB.out.trans (hb.mono HB.out.size)
  have HY3 : Hid (v3.heap[w.heap.size]? = some (.cells UA 46 (0, 0))) := blk_below hb HY2.out
  clear HX HB hb c0 HY2
  have HX : Hid (Bx v3 w.heap.size T) := HX3
  have HB : Hid (Below w.heap.size w v3) := HB3
  clear HX3 HB3
  have c0 := HX.out.c 0 h0
  clear HR HN HA c0
  have hcv : (convert 35 35 (.slice (some ⟨v3.heap.size, 0, none⟩) 4 4)).run Tryd.prog (v3.alloc (.cells #[.int .u8 84, .int .u8 90, .int .u8 52, .int .u8 48] 5)) = .ok (.slice (some ⟨v3.heap.size, 0, none⟩) 4 4) (v3.alloc (.cells #[.int .u8 84, .int .u8 90, .int .u8 52, .int .u8 48] 5 (4, 5))) := Lib.run_convert_bytes_const v3 35 5 #[.int .u8 84, .int .u8 90, .int .u8 52, .int .u8 48] 4 4 Tryd.underlying35 Tryd.underlying5
  obtain ⟨bb, hbb⟩ : ∃ bb, v3.heap.size + 1 = bb := ⟨_, rfl⟩
  go_upto_region 4 with fail
  obtain ⟨W4, hW4⟩ : ∃ W4, (v3.alloc (.cells #[.int .u8 84, .int .u8 90, .int .u8 52, .int .u8 48] 5 (4, 5))).alloc (.cells #[.slice (some ⟨v3.heap.size, 0, none⟩) 4 4] 35) = W4 := ⟨_, rfl⟩
  have hb4 : Below v3.heap.size v3 W4 := by rw [← hW4]; exact ((Below.refl _ v3).alloc (Nat.le_refl _) _).alloc (by simp) _
  have HW4 : Hid (WS w bb w.heap.size W4 tz40) := by
    have hz := HB.out.size
    have hz4 := hb4.size
    refine ⟨HB.out.trans (hb4.mono HB.out.size), by omega, Nat.le_refl _, by omega, by omega, .slice (some ⟨v3.heap.size, 0, none⟩) 4 4, ?_, .inr ⟨v3.heap.size, #[.int .u8 84, .int .u8 90, .int .u8 52, .int .u8 48], (4, 5), rfl, hz, ?_, rfl⟩⟩
    · rw [← hW4, ← hbb]
      have := World.alloc_heap_new (v3.alloc (.cells #[.int .u8 84, .int .u8 90, .int .u8 52, .int .u8 48] 5 (4, 5))) (.cells #[.slice (some ⟨v3.heap.size, 0, none⟩) 4 4] 35)
      rwa [World.size_alloc] at this
    · rw [← hW4]; exact (Below.heap_alloc _ _ _ (by simp)).trans (World.alloc_heap_new v3 _)
  have HY4 : Hid (W4.heap[w.heap.size]? = some (.cells UA 46 (0, 0))) := blk_below hb4 HY3.out
  have hbw : w.heap.size ≠ bb := by have := (Array.getElem?_eq_some_iff.1 HY3.out).1; omega
  clear hb4 hcv hbb
  try rw [hW4]
  clear HY3 HX HB hW4
  go_wp2_with fail
  refine (writer_any bb W4).mono ?_
  rintro e v5 ⟨rfl, hb5, hp5⟩
  have hlt4 : bb < W4.heap.size := by obtain ⟨u, hu, _⟩ := HW4.out.own; exact hu.lt
  have hpw : w.heap.size ≠ W4.heap.size := by have := (Array.getElem?_eq_some_iff.1 HY4.out).1; omega
  have HS5 : Hid ((wPM w bb w.heap.size W4.heap.size).St v5 tz40) := ⟨HW4.out.mv hb5, by decide, hp5, by omega⟩
  have HY5 : v5.heap[w.heap.size]? = some (.cells T.toArray 46 (0, 0)) := by rw [hUA]; exact blk_below hb5 HY4.out
  clear HW4 HY4 hb5 hp5
  go_wp2_with fail
  refine (HP.out bb W4.heap.size v5 HS5 HY5 hbw hpw).mono ?_
  rintro e v6 ⟨⟨r6, rfl⟩, hs6⟩
  have HS6 : Hid ((wPM w bb w.heap.size W4.heap.size).St v6 B) := hs6
  clear hs6 HS5 HY5 HP
  have hB0 : 0 < B.length := HS6.out.2.1
  obtain ⟨v, hv, hq⟩ := HS6.out.1.own
  obtain ⟨gq, cq, rfl, hrd⟩ := hq.rd hB0
  have HV6 : Hid (RS5 bb (.slice (some ⟨gq, 0, none⟩) B.length cq) v6) := hv
  have HQ6 : Hid (RowQ v6 w.heap.size (.slice (some ⟨gq, 0, none⟩) B.length cq) B) := hq
  have HD6 : Hid (∀ j u, (cellsB B)[j]? = some u → v6.cell? ((⟨gq, 0, none⟩ : Addr).add j) = some u) := hrd
  have HNB : Hid (some bb ≠ (Value.slice (some ⟨gq, 0, none⟩) B.length cq).ownBlock) := by
    intro e
    obtain ⟨cs, fz, h9⟩ := hq.blk5 bb e.symm
    rw [show v6.heap[bb]? = _ from hv] at h9
    simp at h9
  clear hv hq hrd
  go_wp2_with fail
  refine wp_region_held_drew (S := RS5 bb (.slice (some ⟨gq, 0, none⟩) B.length cq)) (by kernel_rfl) (RS5.below HV6.out (below_drew1 _)) (fun hHeld => ?_)
  have HQ : Hid (RowQ v6.drew w.heap.size (.slice (some ⟨gq, 0, none⟩) B.length cq) B) := HQ6.out.mv (fun g o _ hg => blk_below (below_drew1 _) hg)
  have HB : Hid (Below w.heap.size w v6.drew) := HS6.out.1.below.trans ((below_drew1 v6).mono HS6.out.1.below.size)
  have HD : Hid (∀ j u, (cellsB B)[j]? = some u → v6.drew.cell? ((⟨gq, 0, none⟩ : Addr).add j) = some u) := HD6.out
  clear HS6 HV6 HQ6 HD6
  refine wpAnyH_take (i := 0) (v := ?_) (oi := { dst := some 24, op := _, type := _, pos := _, after := _, guard := none }) rfl (by kernel_rfl) (by kernel_rfl) (by kernel_rfl) (fun _ _ _ h => h) (Or.inl ⟨by kernel_rfl, ?_⟩) (by assumption) ?_
  case refine_2 => (intro w9 hSw; have q0 := Boxed.cell hSw; go_simp; try with_reducible rfl)
  simp only [Act.put, List.setIfInBounds_toArray, List.set_cons_zero, List.set_cons_succ]
  refine wpAnyH_take (i := 1) (v := ?_) (oi := { dst := some 25, op := _, type := _, pos := _, after := _, guard := none }) rfl (by kernel_rfl) (by kernel_rfl) (by kernel_rfl) (fun _ _ _ h => h) (Or.inl ⟨by kernel_rfl, ?_⟩) (by assumption) ?_
  case refine_2 => (intro w9 hSw; have q0 := Boxed.cell hSw; go_simp; try with_reducible rfl)
  simp only [Act.put, List.setIfInBounds_toArray, List.set_cons_zero, List.set_cons_succ]
  refine wpAnyH_ready (rs := [2]) (by kernel_rfl) (by simp) (AllReadyH.cons (o := { dst := some 26, op := _, type := _, pos := _, after := _, guard := none }) rfl (fun K hK => ?_) AllReadyH.nil)
  go_simp
  refine (sumOf_any (some ⟨gq, 0, none⟩) B B.length cq rfl (by unfold maxLen; omega) _ (rd_of_cells HD.out)).mono ?_
  rintro e y1 ⟨rfl, hb1, hx1⟩
  have HQ1 : Hid (RowQ y1 w.heap.size (.slice (some ⟨gq, 0, none⟩) B.length cq) B) := HQ.out.mv (fun g o _ hg => blk_below hb1 hg)
  have HBq1 : Hid (Below w.heap.size w y1) := HB.out.trans (hb1.mono HB.out.size)
  have HZ1 : w.heap.size ≤ y1.heap.size := HBq1.out.size
  refine hK.out _ _ (hHeld.below hb1) (fun hHeld => ?_)
  clear hK K HQ HB HD hb1
  refine wpAnyH_ready (rs := [3]) (by kernel_rfl) (by simp) (AllReadyH.cons (o := { dst := some 27, op := _, type := _, pos := _, after := _, guard := none }) rfl (fun K hK => ?_) AllReadyH.nil)
  refine (if_pos (by kernel_rfl)).mpr (wp_append_Q _ _ rfl HQ1.out hB0 HZ1 rfl ⟨_, 0, none⟩ 4 4 rfl (beB_len 4 (smB B)) (.inl (by decide)) (by omega) (cells_rd hx1) ?_)
  intro v' w3 hown' hgrow3
  have HOF : Hid (w3.ownsRow w.heap.size 5 1 v' (B.length + 4) (cellsB (B ++ beB 4 (smB B)))) := by rw [cellsB_app]; exact hown'
  have HBF : Hid (Below w.heap.size w w3) := Below.grown HBq1.out hgrow3 HBq1.out.size (fun k hk => HQ1.out.lt _ hk)
  refine hK.out _ _ (hHeld.kept hgrow3 HNB.out) (fun hHeld => ?_)
  clear hK K hown' hgrow3
  refine wpAnyH_take (i := 4) (v := ?_) (oi := { dst := some 2, op := _, type := _, pos := _, after := _, guard := none }) rfl (by kernel_rfl) (by kernel_rfl) (by kernel_rfl) (fun _ _ _ h => h) (Or.inl ⟨by kernel_rfl, ?_⟩) (by assumption) ?_
  case refine_2 => (intro w9 hSw; clear hSw; go_simp; try with_reducible rfl)
  simp only [Act.put, List.setIfInBounds_toArray, List.set_cons_zero, List.set_cons_succ]
  refine wpAnyH_take (i := 5) (v := ?_) (oi := { dst := some 3, op := _, type := _, pos := _, after := _, guard := none }) rfl (by kernel_rfl) (by kernel_rfl) (by kernel_rfl) (fun _ _ _ h => h) (Or.inl ⟨by kernel_rfl, ?_⟩) (by assumption) ?_
  case refine_2 => (intro w9 hSw; clear hSw; go_simp; try with_reducible rfl)
  simp only [Act.put, List.setIfInBounds_toArray, List.set_cons_zero, List.set_cons_succ]
  refine wpAnyH_done (by kernel_rfl) ?_ _
  go_wp2_with fail
  exact bodyPost_ret (v := .tuple #[v', .int .i64 0]) (by simp [results, Tryd.results4, go_sem]) rfl ⟨_, rfl, HOF.out, HBF.out⟩


end Go.Proofs.YtcgcljfdfimfgaaDoor
/- Contract: blob.Put of the table of UTC. -/
namespace Go.Proofs.YtcgcljfdfimfgaaDoor
open Go.RowKit Sr
set_option linter.unusedVariables false

def utcB : List UInt8 := [84, 90, 52, 48, 3, 85, 84, 67, 0, 0, 0, 0, 0, 0, 0, 0, 0, 3, 85, 84, 67, 0, 0, 0, 0, 0, 0, 0, 0, 0]
def utcF : List UInt8 := utcB ++ beB 4 (smB utcB)
theorem pass_utc (w : World) : PassW utcL w utcB := by
  intro bb pb W hS hblk hb1 hb2
  refine (pass_0 (wPM w bb w.heap.size pb) W tz40 w.heap.size utcL.toArray ⟨#[85, 84, 67]⟩ 0 false ⟨#[85, 84, 67]⟩ false hS hblk hb1 hb2 (Nat.zero_le _) rfl rfl rfl rfl rfl rfl
    (tz40 ++ [3, 85, 84, 67]) (tz40 ++ [3, 85, 84, 67] ++ beB 8 (u64N 0) ++ [0] ++ [3, 85, 84, 67]) (tz40 ++ [3, 85, 84, 67] ++ beB 8 (u64N 0) ++ [0] ++ [3, 85, 84, 67] ++ beB 8 (u64N 0)) rfl rfl rfl rfl (by show ((tz40 ++ [3, 85, 84, 67] ++ beB 8 (u64N 0) ++ [0] ++ [3, 85, 84, 67] ++ beB 8 (u64N 0)) ++ [flB false]).length ≤ 900000; decide +kernel)).mono ?_
  rintro e W' ⟨hv, hs, _⟩
  refine ⟨hv, ?_⟩
  have : ((wPM w bb w.heap.size pb).flag (tz40 ++ [3, 85, 84, 67] ++ beB 8 (u64N 0) ++ [0] ++ [3, 85, 84, 67] ++ beB 8 (u64N 0)) false).1 = utcB := by
    show (tz40 ++ [3, 85, 84, 67] ++ beB 8 (u64N 0) ++ [0] ++ [3, 85, 84, 67] ++ beB 8 (u64N 0)) ++ [flB false] = utcB
    decide +kernel
  rw [this] at hs
  exact hs
theorem put_utc (w : World) : Calls Tryd.prog 4 #[.agg utcL.toArray] w fun e w' => ∃ v, e = .returned (.tuple #[v, .int .i64 0]) ∧ w'.ownsRow w.heap.size 5 1 v 34 (cellsB utcF) ∧ Below w.heap.size w w' :=
  put_yes utcL rfl ⟨#[85, 84, 67]⟩ rfl w utcB (by decide) right_utc name_utc short_utc (pass_utc w)

end Go.Proofs.YtcgcljfdfimfgaaDoor
