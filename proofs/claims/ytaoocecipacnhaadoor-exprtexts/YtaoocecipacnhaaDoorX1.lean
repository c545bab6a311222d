import Derived.Shelf.Strings.Builder1
import Derived.Shelf.Strings.Builder2
import Derived.Shelf.Small.Utf8
import Derived.Shelf.Strings.BuilderF
import Derived.Shelf.Strings.BuilderK
import Derived.Shelf.Strings.Search1
import Derived.Shelf.Strings.Search2
import Derived.Shelf.Strings.Search3
import Derived.Shelf.Strings.Count
import Derived.Shelf.LaysM
import Derived.Shelf.Strings.Shaped
import Derived.Shelf.Strings.Split
import Derived.Shelf.Strings.Replace
import Derived.Shelf.Unicode.DecodeSlow
import Derived.Shelf.Unicode.DecodeAny
import Derived.Test.YtaoocecipacnhaaDoorProg
import Derived.Test.YtaoocecipacnhaaDoorX0
import Derived.BigQuiet
import Derived.Deep.QuietTactic
import Derived.WalkKit
import Derived.ProofKit
import Derived.Deep.Cut
import Derived.Deep.CutRange
import Derived.Deep.DeepCutAuto
import Derived.Deep.LoopGhost
open Go.Value renaming int → vi, string → vS, slice → vL
open Go.IntKind renaming i64 → ki
open List renaming setIfInBounds_toArray → zb, set_cons_zero → zc, set_cons_succ → zd, length_cons → zl
open Go.Act renaming put → za
open Go.Ending renaming returned → zr
set_option maxRecDepth 100000
set_option maxHeartbeats 16000000
set_option linter.all false
namespace Go.Proofs
open Go.Shelf
def Tryd.lays169_ren : Go.Shelf.Ren := ⟨fun | 169 => 21 | n => n, fun | 70 => 61 | 9 => 9 | 0 => 0 | 72 => 64 | 37 => 62 | 127 => 100 | 3 => 3 | 5 => 5 | n => n, fun | n => n⟩
theorem Tryd.lays169 : Go.Proofs.Lays.n169 Tryd.prog Tryd.lays169_ren := {
 mixed := by kernel_rfl
 f169 := Tryd.func21.trans (congrArg some (by kernel_rfl))
 t0 := Tryd.underlying0
 a0 := Tryd.isAgg0
 z0 := Tryd.sizeOf0
 v0 := Tryd.zeroValue0
 t3 := Tryd.underlying3
 a3 := Tryd.isAgg3
 z3 := Tryd.sizeOf3
 v3 := Tryd.zeroValue3
 t9 := Tryd.underlying9
 a9 := Tryd.isAgg9
 z9 := Tryd.sizeOf9
 v9 := Tryd.zeroValue9
 t37 := Tryd.underlying62
 a37 := Tryd.isAgg62
 z37 := Tryd.sizeOf62
 v37 := Tryd.zeroValue62
 t70 := Tryd.underlying61
 a70 := Tryd.isAgg61
 z70 := Tryd.sizeOf61
 v70 := Tryd.zeroValue61
 t72 := Tryd.underlying64
 a72 := Tryd.isAgg64
 z72 := Tryd.sizeOf64
 v72 := Tryd.zeroValue64
 t127 := Tryd.underlying100
 a127 := Tryd.isAgg100
 z127 := Tryd.sizeOf100
 v127 := Tryd.zeroValue100 }
theorem Tryd.Builder_Extra_169 : Builder.Extra Tryd.prog Tryd.lays169_ren := {
 sizeBuilder := by kernel_rfl
 liesBuilder := by kernel_rfl
 t5 := Tryd.underlying5
 a5 := Tryd.isAgg5
 z5 := Tryd.sizeOf5
 v5 := Tryd.zeroValue5
 infoByte := by kernel_rfl
 cellsByte := by kernel_rfl
 sizeByte := by kernel_rfl
 neB5 := by decide }
def Tryd.lays118_ren : Go.Shelf.Ren := ⟨fun | 118 => 44 | n => n, fun | 21 => 21 | 3 => 3 | 4 => 4 | n => n, fun | n => n⟩
theorem Tryd.lays118 : Go.Proofs.Lays.n118 Tryd.prog Tryd.lays118_ren := {
 mixed := by kernel_rfl
 f118 := Tryd.func44.trans (congrArg some (by kernel_rfl))
 t3 := Tryd.underlying3
 a3 := Tryd.isAgg3
 z3 := Tryd.sizeOf3
 v3 := Tryd.zeroValue3
 t4 := Tryd.underlying4
 a4 := Tryd.isAgg4
 z4 := Tryd.sizeOf4
 v4 := Tryd.zeroValue4
 t21 := Tryd.underlying21
 a21 := Tryd.isAgg21
 z21 := Tryd.sizeOf21
 v21 := Tryd.zeroValue21 }
theorem Tryd.utf8_RuneLen (r : Int) (w : World) :
  Calls Tryd.prog 44 #[.int .i32 r] w fun e w' => e = zr (vi ki (Lib.runeLen r)) ∧ w' = w := Any.utf8_RuneLen Tryd.lays118 r w
open Go.RowKit in
theorem Tryd.Builder_String_any_k (B b : Nat) (l : List UInt8) (w : World) (h : Lib.IsBuilderF 64 5 B b (Lib.byteCells l) w) (hBw : B ≤ w.heap.size) :
  Calls Tryd.prog 21 #[.pointer (some ⟨b, 0, none⟩)] w fun e w' => e = zr (vS ⟨l.toArray⟩) ∧ (Lib.IsBuilderF 64 5 B b (Lib.byteCells l) w' ∧ Below B w w' ∧ Lib.OthersKept 5 (some b) w w') := Any.Builder_String_any_k Tryd.lays169 Tryd.Builder_Extra_169 B b l w h hBw
def Tryd.lays155_ren : Go.Shelf.Ren := ⟨fun | 155 => 41 | 154 => 61 | 138 => 70 | 165 => 71 | 143 => 72 | 166 => 40 | 197 => 62 | 169 => 21 | 195 => 78 | 218 => 79 | 240 => 60 | 241 => 80 | 219 => 81 | 260 => 73 | 276 => 69 | 277 => 84 | 217 => 85 | 225 => 86 | 224 => 87 | 267 => 88 | 266 => 90 | 314 => 91 | n => n, fun | 9 => 9 | 3 => 3 | 4 => 4 | 72 => 64 | 0 => 0 | 76 => 96 | 105 => 112 | 21 => 21 | 5 => 5 | 70 => 61 | 20 => 20 | 37 => 62 | 75 => 95 | 127 => 100 | 164 => 121 | 46 => 131 | 119 => 130 | 139 => 134 | 138 => 133 | 146 => 139 | 51 => 138 | 80 => 66 | n => n, fun | 1 => 2 | 3 => 0 | 4 => 1 | n => n⟩
theorem Tryd.lays155 : Go.Proofs.Lays.n155 Tryd.prog Tryd.lays155_ren := {
 mixed := by kernel_rfl
 f138 := Tryd.func70.trans (congrArg some (by kernel_rfl))
 f143 := Tryd.func72.trans (congrArg some (by kernel_rfl))
 f154 := Tryd.func61.trans (congrArg some (by kernel_rfl))
 f155 := Tryd.func41.trans (congrArg some (by kernel_rfl))
 f165 := Tryd.func71.trans (congrArg some (by kernel_rfl))
 f166 := Tryd.func40.trans (congrArg some (by kernel_rfl))
 f169 := Tryd.func21.trans (congrArg some (by kernel_rfl))
 f195 := Tryd.func78.trans (congrArg some (by kernel_rfl))
 f197 := Tryd.func62.trans (congrArg some (by kernel_rfl))
 f217 := Tryd.func85.trans (congrArg some (by kernel_rfl))
 f218 := Tryd.func79.trans (congrArg some (by kernel_rfl))
 f219 := Tryd.func81.trans (congrArg some (by kernel_rfl))
 f224 := Tryd.func87.trans (congrArg some (by kernel_rfl))
 f225 := Tryd.func86.trans (congrArg some (by kernel_rfl))
 f240 := Tryd.func60.trans (congrArg some (by kernel_rfl))
 f241 := Tryd.func80.trans (congrArg some (by kernel_rfl))
 f260 := Tryd.func73.trans (congrArg some (by kernel_rfl))
 f266 := Tryd.func90.trans (congrArg some (by kernel_rfl))
 f267 := Tryd.func88.trans (congrArg some (by kernel_rfl))
 f276 := Tryd.func69.trans (congrArg some (by kernel_rfl))
 f277 := Tryd.func84.trans (congrArg some (by kernel_rfl))
 f314 := Tryd.func91.trans (congrArg some (by kernel_rfl))
 t0 := Tryd.underlying0
 a0 := Tryd.isAgg0
 z0 := Tryd.sizeOf0
 v0 := Tryd.zeroValue0
 t3 := Tryd.underlying3
 a3 := Tryd.isAgg3
 z3 := Tryd.sizeOf3
 v3 := Tryd.zeroValue3
 t4 := Tryd.underlying4
 a4 := Tryd.isAgg4
 z4 := Tryd.sizeOf4
 v4 := Tryd.zeroValue4
 t5 := Tryd.underlying5
 a5 := Tryd.isAgg5
 z5 := Tryd.sizeOf5
 v5 := Tryd.zeroValue5
 t9 := Tryd.underlying9
 a9 := Tryd.isAgg9
 z9 := Tryd.sizeOf9
 v9 := Tryd.zeroValue9
 t20 := Tryd.underlying20
 a20 := Tryd.isAgg20
 z20 := Tryd.sizeOf20
 v20 := Tryd.zeroValue20
 t21 := Tryd.underlying21
 a21 := Tryd.isAgg21
 z21 := Tryd.sizeOf21
 v21 := Tryd.zeroValue21
 t37 := Tryd.underlying62
 a37 := Tryd.isAgg62
 z37 := Tryd.sizeOf62
 v37 := Tryd.zeroValue62
 t46 := Tryd.underlying131
 a46 := Tryd.isAgg131
 z46 := Tryd.sizeOf131
 v46 := Tryd.zeroValue131
 t51 := Tryd.underlying138
 a51 := Tryd.isAgg138
 z51 := Tryd.sizeOf138
 v51 := Tryd.zeroValue138
 t70 := Tryd.underlying61
 a70 := Tryd.isAgg61
 z70 := Tryd.sizeOf61
 v70 := Tryd.zeroValue61
 t72 := Tryd.underlying64
 a72 := Tryd.isAgg64
 z72 := Tryd.sizeOf64
 v72 := Tryd.zeroValue64
 t75 := Tryd.underlying95
 a75 := Tryd.isAgg95
 z75 := Tryd.sizeOf95
 v75 := Tryd.zeroValue95
 t76 := Tryd.underlying96
 a76 := Tryd.isAgg96
 z76 := Tryd.sizeOf96
 v76 := Tryd.zeroValue96
 t105 := Tryd.underlying112
 a105 := Tryd.isAgg112
 z105 := Tryd.sizeOf112
 v105 := Tryd.zeroValue112
 t119 := Tryd.underlying130
 a119 := Tryd.isAgg130
 z119 := Tryd.sizeOf130
 t127 := Tryd.underlying100
 a127 := Tryd.isAgg100
 z127 := Tryd.sizeOf100
 v127 := Tryd.zeroValue100
 t138 := Tryd.underlying133
 a138 := Tryd.isAgg133
 z138 := Tryd.sizeOf133
 v138 := Tryd.zeroValue133
 t139 := Tryd.underlying134
 a139 := Tryd.isAgg134
 z139 := Tryd.sizeOf134
 v139 := Tryd.zeroValue134
 t146 := Tryd.underlying139
 a146 := Tryd.isAgg139
 z146 := Tryd.sizeOf139
 v146 := Tryd.zeroValue139
 t164 := Tryd.underlying121
 a164 := Tryd.isAgg121
 z164 := Tryd.sizeOf121
 v164 := Tryd.zeroValue121
 g1 := by kernel_rfl
 g3 := by kernel_rfl
 g4 := by kernel_rfl }
theorem Tryd.Builder_Extra_155 : Builder.Extra Tryd.prog Tryd.lays155_ren := {
 sizeBuilder := by kernel_rfl
 liesBuilder := by kernel_rfl
 t5 := Tryd.underlying5
 a5 := Tryd.isAgg5
 z5 := Tryd.sizeOf5
 v5 := Tryd.zeroValue5
 infoByte := by kernel_rfl
 cellsByte := by kernel_rfl
 sizeByte := by kernel_rfl
 neB5 := by decide }
open Go.RowKit Go.Lib in
theorem Tryd.strings_ReplaceAll (s old new : ByteArray) (m : Int) (w : World) (hs : s.size < 4294967281) (hm : w.cell? ⟨2, 0, none⟩ = some (vi ki m)) (h1 : 1 ≤ old.size) (hlen : s.size + Lib.countB s old * new.size ≤ 140737488355328) :
  Calls Tryd.prog 41 #[vS s, vS old, vS new] w fun e w' =>
   e = zr (vS ⟨(Lib.replaceAll s.data.toList old.data.toList new.data.toList).toArray⟩) ∧ Below w.heap.size w w' := Any.strings_ReplaceAll Tryd.lays155 Tryd.Builder_Extra_155 s old new m w hs hm h1 hlen
def Tryd.lays197_ren : Go.Shelf.Ren := ⟨fun | 197 => 62 | 260 => 73 | n => n, fun | 9 => 9 | 21 => 21 | 3 => 3 | 4 => 4 | 5 => 5 | 105 => 112 | 119 => 130 | 0 => 0 | 46 => 131 | 139 => 134 | 138 => 133 | n => n, fun | 3 => 0 | 4 => 1 | n => n⟩
theorem Tryd.lays197 : Go.Proofs.Lays.n197 Tryd.prog Tryd.lays197_ren := {
 mixed := by kernel_rfl
 f197 := Tryd.func62.trans (congrArg some (by kernel_rfl))
 f260 := Tryd.func73.trans (congrArg some (by kernel_rfl))
 t0 := Tryd.underlying0
 a0 := Tryd.isAgg0
 z0 := Tryd.sizeOf0
 v0 := Tryd.zeroValue0
 t3 := Tryd.underlying3
 a3 := Tryd.isAgg3
 z3 := Tryd.sizeOf3
 v3 := Tryd.zeroValue3
 t4 := Tryd.underlying4
 a4 := Tryd.isAgg4
 z4 := Tryd.sizeOf4
 v4 := Tryd.zeroValue4
 t5 := Tryd.underlying5
 a5 := Tryd.isAgg5
 z5 := Tryd.sizeOf5
 v5 := Tryd.zeroValue5
 t9 := Tryd.underlying9
 a9 := Tryd.isAgg9
 z9 := Tryd.sizeOf9
 v9 := Tryd.zeroValue9
 t21 := Tryd.underlying21
 a21 := Tryd.isAgg21
 z21 := Tryd.sizeOf21
 v21 := Tryd.zeroValue21
 t46 := Tryd.underlying131
 a46 := Tryd.isAgg131
 z46 := Tryd.sizeOf131
 v46 := Tryd.zeroValue131
 t105 := Tryd.underlying112
 a105 := Tryd.isAgg112
 z105 := Tryd.sizeOf112
 v105 := Tryd.zeroValue112
 t119 := Tryd.underlying130
 a119 := Tryd.isAgg130
 z119 := Tryd.sizeOf130
 t138 := Tryd.underlying133
 a138 := Tryd.isAgg133
 z138 := Tryd.sizeOf133
 v138 := Tryd.zeroValue133
 t139 := Tryd.underlying134
 a139 := Tryd.isAgg134
 z139 := Tryd.sizeOf134
 v139 := Tryd.zeroValue134
 g3 := by kernel_rfl
 g4 := by kernel_rfl }
open Go.RowKit Go.Lib in
theorem Tryd.utf8_DecodeRuneInString (s : ByteArray) (w : World) (hT : Lib.Utf8Tabs 0 1 w) :
  Calls Tryd.prog 62 #[vS s] w fun e w' => e = zr (.tuple #[.int .i32 (Lib.decodeGo s).1, vi ki (Lib.decodeGo s).2]) ∧ Below w.heap.size w w' := Any.utf8_DecodeRuneInString Tryd.lays197 s w hT
end Go.Proofs
namespace Go.Proofs.YtaoocecipacnhaaDoor
open Go.RowKit
abbrev Tabs (w : World) : Prop := Lib.Utf8Tabs 0 1 w
theorem Tabs_below {w w' : World} (h : Tabs w) (hb : Below w.heap.size w w') : Tabs w' := Utf8Tabs_below h hb
theorem go_tail (s : ByteArray) (pos : Nat) (h : pos < s.size) : Lib.decodeGo (s.extract pos s.size) = Utf8.decode s pos := by
 unfold Lib.decodeGo
 have hz : (s.extract pos s.size).size = s.size - pos := by rw [ByteArray.size_extract]; omega
 rw [if_neg (by omega)]
 have bt_tail : ∀ i, bt (s.extract pos s.size) i = bt s (pos + i) := by
  intro i
  by_cases hi : pos + i < s.size
  ·unfold bt
   rw [get_lt _ i (by omega), get_lt s (pos + i) hi, ByteArray.getElem_extract]
  ·rw [bt_beyond s _ hi, bt_beyond _ i (by omega)]
 have e1 := Lib.decode_at (s.extract pos s.size) 0
 have e2 := Lib.decode_at s pos
 change Utf8.decode (s.extract pos s.size) 0 = Lib.decodeN ((s.extract pos s.size).size - 0) (bt (s.extract pos s.size) 0) (bt (s.extract pos s.size) 1) (bt (s.extract pos s.size) 2) (bt (s.extract pos s.size) 3) at e1
 change Utf8.decode s pos = Lib.decodeN (s.size - pos) (bt s (pos + 0)) (bt s (pos + 1)) (bt s (pos + 2)) (bt s (pos + 3)) at e2
 rw [e1, e2, bt_tail, bt_tail, bt_tail, bt_tail, hz, Nat.sub_zero]
theorem kw_blank {R : Int} {wd : Nat} (h : R = 32 ∨ R = 9 ∨ R = 10 ∨ R = 13) : kindW R wd = 0 := by unfold kindW; rw [if_pos h]
theorem kw_wrong {R : Int} {wd : Nat} (h : ¬ (R = 32 ∨ R = 9 ∨ R = 10 ∨ R = 13)) (h1 : R < 32 ∨ R = 127) : kindW R wd = -1 := by unfold kindW; rw [if_neg h, if_pos h1]
theorem kw_digit {R : Int} {wd : Nat} (h : 48 ≤ R ∧ R ≤ 57) : kindW R wd = 1 := by unfold kindW; rw [if_neg (by omega), if_neg (by omega), if_pos h]
theorem kw_err {wd : Nat} : kindW 65533 wd = if wd = 1 then -1 else 2 := by unfold kindW; rw [if_neg (by omega), if_neg (by omega), if_neg (by omega), if_pos rfl]
theorem kw_letter {R : Int} {wd : Nat} (h : R ≠ 65533) (h1 : 127 < R ∨ R = 95 ∨ (97 ≤ R ∧ R ≤ 122) ∨ (65 ≤ R ∧ R ≤ 90)) : kindW R wd = 2 := by unfold kindW; rw [if_neg (by omega), if_neg (by omega), if_neg (by omega), if_neg h, if_pos h1]
theorem kw_sign {R : Int} {wd : Nat} (h : ¬ (R = 32 ∨ R = 9 ∨ R = 10 ∨ R = 13)) (h1 : ¬ (R < 32 ∨ R = 127)) (h2 : ¬ (48 ≤ R ∧ R ≤ 57)) (h3 : R ≠ 65533) (h4 : ¬ (127 < R ∨ R = 95 ∨ (97 ≤ R ∧ R ≤ 122) ∨ (65 ≤ R ∧ R ≤ 90))) : kindW R wd = 3 := by unfold kindW; rw [if_neg h, if_neg h1, if_neg h2, if_neg h3, if_neg h4]
theorem kindAt_rune (s : ByteArray) (pos : Nat) (R : Int) (wd : Nat) (hs : s.size ≤ maxLen) (hp : pos ≤ s.size) (r0 : 0 ≤ R) (r1 : R ≤ 2147483647) (h3 : R ≠ 65533) (w : World) :
  Calls Tryd.prog 43 #[vS s, vi ki (pos : Int), .int .i32 R] w fun e w' => e = zr (vi ki (kindW R wd)) ∧ Below w.heap.size w w' := by
 unfold maxLen at hs
 by_cases hb : R = 32 ∨ R = 9 ∨ R = 10 ∨ R = 13
 ·rw [kw_blank hb]
  rcases hb with rfl | rfl | rfl | rfl
  all_goals
   go_enter Tryd.func43, Tryd.ntmps43
   go_wp2_with fail
   go_ret
   exact ⟨rfl, Below.refl _ _⟩
 ·have b1 : (R == 32) = false := by simp; omega
  have b2 : (R == 9) = false := by simp; omega
  have b3 : (R == 10) = false := by simp; omega
  have b4 : (R == 13) = false := by simp; omega
  have b5 : (R == 65533) = false := by simp; omega
  by_cases hw : R < 32 ∨ R = 127
  ·rw [kw_wrong hb hw]
   rcases hw with h | rfl
   all_goals
    go_enter Tryd.func43, Tryd.ntmps43
    go_wp2_with fail
    go_ret
    exact ⟨rfl, Below.refl _ _⟩
  ·have b6 : ¬ R < 32 := by omega
   have b7 : (R == 127) = false := by simp; omega
   by_cases hd : 48 ≤ R ∧ R ≤ 57
   ·rw [kw_digit hd]
    obtain ⟨d1, d2⟩ := hd
    go_enter Tryd.func43, Tryd.ntmps43
    go_wp2_with fail
    go_ret
    exact ⟨rfl, Below.refl _ _⟩
   ·by_cases hl : 127 < R ∨ R = 95 ∨ (97 ≤ R ∧ R ≤ 122) ∨ (65 ≤ R ∧ R ≤ 90)
    ·rw [kw_letter h3 hl]
     have n57 : ¬ R ≤ 57 := by omega
     have n48 : 48 ≤ R := by omega
     clear hb hw hd
     by_cases c1 : 127 < R
     ·go_enter Tryd.func43, Tryd.ntmps43
      go_wp2_with fail
      go_ret; exact ⟨rfl, Below.refl _ _⟩
     ·by_cases c2 : R = 95
      ·subst c2
       go_enter Tryd.func43, Tryd.ntmps43
       go_wp2_with fail
       go_ret; exact ⟨rfl, Below.refl _ _⟩
      ·have c2' : (R == 95) = false := by simp; omega
       by_cases c3 : 97 ≤ R
       ·have c4 : R ≤ 122 := by omega
        go_enter Tryd.func43, Tryd.ntmps43
        go_wp2_with fail
        go_ret; exact ⟨rfl, Below.refl _ _⟩
       ·have c4 : 65 ≤ R := by omega
        have c5 : R ≤ 90 := by omega
        go_enter Tryd.func43, Tryd.ntmps43
        go_wp2_with fail
        go_ret; exact ⟨rfl, Below.refl _ _⟩
    ·rw [kw_sign hb hw hd h3 hl]
     clear hb hw
     go_enter Tryd.func43, Tryd.ntmps43
     go_wp2_with fail
     all_goals first
      | (exfalso; omega)
      | (go_ret; exact ⟨rfl, Below.refl _ _⟩)
theorem kindAt_err (s : ByteArray) (pos wd : Nat) (hs : s.size ≤ maxLen) (hp : pos < s.size) (hd : Utf8.decode s pos = (65533, wd)) (hw : wd ≤ 4) (w : World) (hT : Tabs w) :
  Calls Tryd.prog 43 #[vS s, vi ki (pos : Int), .int .i32 65533] w fun e w' => e = zr (vi ki (kindW 65533 wd)) ∧ Below w.heap.size w w' := by
 unfold maxLen at hs
 have HC : Hid (Calls Tryd.prog 62 #[vS (s.extract pos s.size)] w fun e w' => e = zr (.tuple #[.int .i32 65533, vi ki (wd : Int)]) ∧ Below w.heap.size w w') := by
  have := Tryd.utf8_DecodeRuneInString (s.extract pos s.size) w hT
  rw [go_tail s pos hp, hd] at this
  exact this
 rw [kw_err]
 clear hd hT
 have hpi : (pos : Int) ≤ (s.size : Int) := by omega
 by_cases h1 : wd = 1
 ·subst h1
  go_enter Tryd.func43, Tryd.ntmps43
  go_wp2_with fail
  refine HC.out.mono ?_
  rintro e w1 ⟨rfl, B1⟩
  go_wp2_with fail
  go_ret
  exact ⟨rfl, B1⟩
 ·rw [if_neg h1]
  have h1' : ((wd : Int) == 1) = false := by simp; omega
  go_enter Tryd.func43, Tryd.ntmps43
  go_wp2_with fail
  refine HC.out.mono ?_
  rintro e w1 ⟨rfl, B1⟩
  go_wp2_with fail
  go_ret
  exact ⟨rfl, B1⟩
theorem kindAt_any (s : ByteArray) (pos : Nat) (hs : s.size ≤ maxLen) (hp : pos < s.size) (w : World) (hT : Tabs w) :
  Calls Tryd.prog 43 #[vS s, vi ki (pos : Int), .int .i32 ((Utf8.decode s pos).1 : Int)] w fun e w' => e = zr (vi ki (kindP s pos)) ∧ Below w.heap.size w w' := by
 unfold kindP
 by_cases h : (Utf8.decode s pos).1 = 65533
 ·have hw : (Utf8.decode s pos).2 ≤ 4 := by
   rcases dec_shape s pos hp with ⟨_, e⟩ | ⟨_, e⟩ | ⟨_, _, e, _⟩
   ·rw [e]; simp
   ·rw [e]; simp
   ·exact e
  have := kindAt_err s pos (Utf8.decode s pos).2 hs hp (by rw [← h]) hw w hT
  rw [h]
  exact this
 ·have := decode_le s pos
  exact kindAt_rune s pos _ _ hs (by omega) (by omega) (by omega) (by omega) w
theorem infoPart : (Tryd.prog.info? 73).map (fun i => (i.zero, i.size, i.bytes)) = some (some (.agg #[vi ki 0, vS ByteArray.empty, vi ki 0]), 3, 32) := by kernel_rfl
def flatP (s : ByteArray) : List Prt → List Value
 | [] => []
 | p :: l => vi ki p.1 :: vS (s.extract p.2.1 p.2.2) :: vi ki (p.2.1 : Int) :: flatP s l
theorem flatP_length (s : ByteArray) : ∀ l : List Prt, (flatP s l).length = l.length * 3
 | [] => rfl
 | r :: l => by simp [flatP, flatP_length s l]; omega
theorem flatP_append (s : ByteArray) : ∀ (l k : List Prt), flatP s (l ++ k) = flatP s l ++ flatP s k
 | [], k => rfl
 | r :: l, k => by simp [flatP, flatP_append s l k]
theorem flatP_set (s : ByteArray) (l : List Prt) (k : Int) (t : Value) (x y : Nat) : (flatP s l ++ [vi ki k, t, vi ki (x : Int)]).set (l.length * 3 + 1) (vS (s.extract x y)) = flatP s (l ++ [(k, x, y)]) := by
 rw [flatP_append, List.set_append_right _ _ (by rw [flatP_length]; omega), flatP_length, show l.length * 3 + 1 - l.length * 3 = 1 by omega]
 rfl
theorem ownsRow_keep {w w1 : World} {base : Nat} {e : TypeId} {size : Nat} {v : Value} {n : Nat} {xs : List Value} (h : w.ownsRow base e size v n xs) (hk : ∀ k, base ≤ k → k < w.heap.size → w1.heap[k]? = w.heap[k]?) : w1.ownsRow base e size v n xs := by
 obtain ⟨h1, h2⟩ := h
 refine ⟨h1, ?_⟩
 rcases h2 with h2 | ⟨g, cap, cur, a, b, c, d⟩
 ·exact .inl h2
 ·exact .inr ⟨g, cap, cur, a, b, (hk g b (Array.getElem?_eq_some_iff.1 c).1).trans c, d⟩
theorem ownsRow_lower {w : World} {base base' : Nat} {e : TypeId} {size : Nat} {v : Value} {n : Nat} {xs : List Value} (h : w.ownsRow base e size v n xs) (hb : base' ≤ base) : w.ownsRow base' e size v n xs := by
 obtain ⟨h1, h2⟩ := h
 refine ⟨h1, ?_⟩
 rcases h2 with h2 | ⟨g, cap, cur, a, b, c⟩
 ·exact .inl h2
 ·exact .inr ⟨g, cap, cur, a, by omega, c⟩
def SInv (w : World) (s : ByteArray) (W : World) (v : Value) (pos n : Nat) (xs : List Value) : Prop :=
 W.heap[w.heap.size]? = some (.stringIter s pos) ∧ W.ownsRow (w.heap.size + 1) 73 3 v n xs ∧ Below w.heap.size w W
theorem SInv.it {w : World} {s : ByteArray} {W : World} {v : Value} {pos n : Nat} {xs : List Value} (h : SInv w s W v pos n xs) : W.heap[w.heap.size]? = some (.stringIter s pos) := h.1
theorem SInv.own {w : World} {s : ByteArray} {W : World} {v : Value} {pos n : Nat} {xs : List Value} (h : SInv w s W v pos n xs) : W.ownsRow (w.heap.size + 1) 73 3 v n xs := h.2.1
theorem SInv.low {w : World} {s : ByteArray} {W : World} {v : Value} {pos n : Nat} {xs : List Value} (h : SInv w s W v pos n xs) : Below w.heap.size w W := h.2.2
theorem SInv.drewed {w : World} {s : ByteArray} {W : World} {v : Value} {pos n : Nat} {xs : List Value} (h : SInv w s W v pos n xs) : SInv w s W.drew v pos n xs := ⟨h.1, h.2.1, h.2.2.drew⟩
theorem SInv.below {w : World} {s : ByteArray} {W W1 : World} {v : Value} {pos n : Nat} {xs : List Value} (h : SInv w s W v pos n xs) (hb : Below W.heap.size W W1) : SInv w s W1 v pos n xs :=
 ⟨(hb.block _ (Array.getElem?_eq_some_iff.1 h.it).1).trans h.it, ownsRow_keep h.own (fun k _ hk => hb.block k hk), h.low.trans (hb.mono h.low.size)⟩
theorem SInv.last {w : World} {s : ByteArray} {W : World} {g cap pos n : Nat} {l : List Prt} {k x : Int} {t : Value} (h : SInv w s W (vL (some ⟨g, 0, none⟩) (n + 1) cap) pos (n + 1) (flatP s l ++ [vi ki k, t, vi ki x])) (hn : l.length = n) :
  W.cell? ⟨g, n * 3 + 1, none⟩ = some t ∧ W.cell? ⟨g, n * 3 + 2, none⟩ = some (vi ki x) ∧ W.frozen? ⟨g, n * 3 + 1, none⟩ = false := by
 have e := flatP_length s l
 refine ⟨?_, ?_, h.own.frozenAt _⟩
 ·rw [h.own.cellAt _ (by omega), List.getElem?_append_right (by omega), e, hn, show n * 3 + 1 - n * 3 = 1 by omega]; rfl
 ·rw [h.own.cellAt _ (by omega), List.getElem?_append_right (by omega), e, hn, show n * 3 + 2 - n * 3 = 2 by omega]; rfl
theorem SInv.form {w : World} {s : ByteArray} {W : World} {v : Value} {pos n : Nat} {xs : List Value} (h : SInv w s W v pos (n + 1) xs) : ∃ g cap, v = vL (some ⟨g, 0, none⟩) (n + 1) cap ∧ w.heap.size + 1 ≤ g ∧ n + 1 ≤ cap ∧ cap ≤ maxLen := by
 rcases h.own.2 with ⟨_, h2⟩ | ⟨g, cap, cur, e, h1, _, h3, h4, _⟩
 ·simp at h2
 ·exact ⟨g, cap, e, h1, h3, h4⟩
theorem SInv.store {w : World} {s : ByteArray} {W : World} {g cap pos n : Nat} {l : List Prt} {k : Int} {x : Nat} {t : Value} (h : SInv w s W (vL (some ⟨g, 0, none⟩) (n + 1) cap) pos (n + 1) (flatP s l ++ [vi ki k, t, vi ki (x : Int)])) (hn : l.length = n) (hg : w.heap.size + 1 ≤ g) (y : Nat) :
  SInv w s (W.setCell ⟨g, n * 3 + 1, none⟩ (vS (s.extract x y))) (vL (some ⟨g, 0, none⟩) (n + 1) cap) pos (n + 1) (flatP s (l ++ [(k, x, y)])) := by
 have q := (h.own.stored (n * 3 + 1) (vS (s.extract x y))).1
 rw [← hn, flatP_set, hn] at q
 exact ⟨by rw [Below.heap_setCell _ _ _ _ (by simp; omega)]; exact h.it, q, h.low.setCell (by simp; omega) _⟩
def SLast (w : World) (s : ByteArray) (W : World) (g cap pos n : Nat) (l : List Prt) (k : Int) (x : Nat) : Prop :=
 ∃ t, SInv w s W (vL (some ⟨g, 0, none⟩) (n + 1) cap) pos (n + 1) (flatP s l ++ [vi ki k, t, vi ki (x : Int)])
theorem SInv.lastT {w : World} {s : ByteArray} {W : World} {g cap pos n : Nat} {l : List Prt} {k : Int} {x y : Nat} (h : SInv w s W (vL (some ⟨g, 0, none⟩) (n + 1) cap) pos (n + 1) (flatP s (l ++ [(k, x, y)]))) : SLast w s W g cap pos n l k x :=
 ⟨vS (s.extract x y), by rw [flatP_append] at h; exact h⟩
def SplitOf (w : World) (s : ByteArray) (e : Ending) (w' : World) : Sum Nat (List Prt) → Prop
 | .inl i => e = zr (.tuple #[vL none 0 0, vi ki (i : Int), vi ki 21])
 | .inr l => ∃ v, e = zr (.tuple #[v, vi ki 0, vi ki 0]) ∧ w'.ownsRow w.heap.size 73 3 v l.length (flatP s l)
theorem split_no {w : World} {s : ByteArray} {e : Ending} {w' : World} {i : Nat} (h : e = zr (.tuple #[vL none 0 0, vi ki (i : Int), vi ki 21])) : SplitOf w s e w' (.inl i) := h
theorem split_yes {w : World} {s : ByteArray} {e : Ending} {w' : World} {l : List Prt} (v : Value) (h : e = zr (.tuple #[v, vi ki 0, vi ki 0])) (ho : w'.ownsRow w.heap.size 73 3 v l.length (flatP s l)) : SplitOf w s e w' (.inr l) := ⟨v, h, ho⟩
theorem part_new (w : World) (a b c : Value) (t : TypeId) : ∀ j u, [a, b, c][j]? = some u → (w.alloc (.cells #[a, b, c] t)).cell? ((⟨w.heap.size, 0, none⟩ : Addr).add j) = some u := by
 intro j u hj
 match j, hj with
 | 0, hj => simp at hj; subst hj; simp [Addr.add]
 | 1, hj => simp at hj; subst hj; simp [Addr.add]
 | 2, hj => simp at hj; subst hj; simp [Addr.add]
 | j + 3, hj => simp at hj
theorem part_one (m : Int) (t : ByteArray) (n : Int) : ∀ u ∈ [Value.int .i64 m, vS t, vi ki n], u.oneCell' = true := by
 intro x hx; simp at hx; rcases hx with rfl | rfl | rfl <;> rfl
theorem wsplit_any (s : ByteArray) (w : World) (hT : Tabs w) (hsz : s.size ≤ 2048) :
    Calls Tryd.prog 23 #[vS s] w fun e w' => Below w.heap.size w w' ∧ SplitOf w s e w' (splitB s) := by
  obtain ⟨i0, hi, hz0, hz1, hz2⟩ := info_parts infoPart
  have hs' : s.size ≤ maxLen := by unfold maxLen; omega
  have hsi : ¬ (2048 : Int) < (s.size : Int) := by omega
  obtain ⟨G, hG⟩ : ∃ G, G = splitB s := ⟨_, rfl⟩
  rw [← hG]
  have HG := hZz hG.symm
  clear hG
  go_enter Tryd.func23, Tryd.ntmps23
  go_wp2_with fail
  go_loopw [5, 6] (fun v a wr => ∃ (pos fuel : Nat) (l : List Prt) (k : Int), a = vi ki k ∧ 0 ≤ k ∧ k ≤ 3 ∧ SInv w s wr v pos l.length (flatP s l) ∧ Hid (splitF s fuel pos l k = G) ∧ s.size ≤ pos + fuel ∧ Cov s 0 l pos ∧ Lst l pos k) (fun _ _ wr => s.size - wr.iterPos w.heap.size)
  case atStart =>
    refine ⟨0, s.size, [], 0, rfl, by omega, by omega, ⟨?_, World.ownsRow_nil _ _ _ _, ?_⟩, HG, by omega, ⟨Nat.le_refl _, Nat.zero_le _, fun j h1 h2 => by omega⟩, .inl rfl⟩
    · exact World.iter_heap w s 0
    · exact (Below.refl _ _).alloc (Nat.le_refl _) _
  case round =>
    obtain ⟨pos, fuel, l, k, rfl, k0, k3, I, HS, hf, hC, hL⟩ := hrel
    have hpos0 : Hid (wr.iterPos w.heap.size = pos) := iterPos_eq I.it
    by_cases hp : pos < s.size
    · have hnx : ∀ ty, (Instr.next (.pointer (some ⟨w.heap.size, 0, none⟩)) true ty).run Tryd.prog wr = _ := fun ty => Lib.run_next_any_at wr w.heap.size s pos ty I.it hp
      have hwd := wd_pos s pos
      have hwl := wd_le s pos hp
      have hln := Cov_length s l 0 pos hC
      obtain ⟨fuel, rfl⟩ : ∃ f', fuel = f' + 1 := ⟨fuel - 1, by omega⟩
      have I2 : SInv w s (wr.iterAt w.heap.size s (pos + (Utf8.decode s pos).2)) u5 (pos + (Utf8.decode s pos).2) l.length (flatP s l) :=
        ⟨Lib.iterAt_heap wr w.heap.size s pos (pos + (Utf8.decode s pos).2) I.it, ownsRow_keep I.own (fun k hk _ => Lib.iterAt_other _ _ _ _ _ (by omega)), Lib.below_iterAt I.low (k := w.heap.size) (by omega) s (pos + (Utf8.decode s pos).2)⟩
      clear I
      have hka := fun w => kindAt_any s pos hs' hp w
      have hrl : kindP s pos ≠ -1 → _ := fun h w => Tryd.utf8_RuneLen ((Utf8.decode s pos).1 : Int) w
      have hrl2 : kindP s pos ≠ -1 → _ := wd_len s pos hp
      obtain ⟨R, hR⟩ : ∃ R : Int, ((Utf8.decode s pos).1 : Int) = R := ⟨_, rfl⟩
      obtain ⟨W1, hW1⟩ : ∃ W1, W1 = wr.iterAt w.heap.size s (pos + (Utf8.decode s pos).2) := ⟨_, rfl⟩
      rw [hR] at hnx hka hrl hrl2
      rw [← hW1] at hnx I2
      have R0 : 0 ≤ R := by omega
      have R1 : R ≤ 2147483647 := by have := decode_le s pos; omega
      clear hW1 hR
      obtain ⟨K, hK⟩ : ∃ K, kindP s pos = K := ⟨_, rfl⟩
      rw [hK] at hka hrl hrl2
      have HKA := hZz hka
      have HRL : Hid (K ≠ -1 → ∀ w : World, Calls Tryd.prog 44 #[.int .i32 R] w fun e w' => e = zr (vi ki ((Utf8.decode s pos).2 : Int)) ∧ w' = w) := fun h w => by have := hrl h w; rw [hrl2 h] at this; exact this
      have HI := hZz I2
      have HK := hZz hK
      have hKr : K = -1 ∨ K = 0 ∨ K = 1 ∨ K = 2 ∨ K = 3 := by rw [← hK]; exact kindW_range _ _
      have HC := hZz hC
      have HL := hZz hL
      have hT1 : Tabs W1 := Tabs_below hT I2.low
      clear hka hrl hrl2 I2 hK hC hL
      go_wp2_with fail
      refine (HKA.out _ hT1).mono ?_
      rintro e w2 ⟨rfl, b2⟩
      have HI2 : Hid (SInv w s w2 u5 (pos + (Utf8.decode s pos).2) l.length (flatP s l)) := HI.out.below b2
      clear HKA HI b2 hT1 hnx R0
      by_cases hw : K = -1
      · subst hw
        have HE : G = .inl pos := by rw [← HS.out, splitF_wrong hp HK.out]
        subst HE
        go_wp2_with fail
        go_ret3
        exact ⟨HI2.out.low, split_no rfl⟩
      · have HRL2 : Hid (∀ w : World, Calls Tryd.prog 44 #[.int .i32 R] w fun e w' => e = zr (vi ki ((Utf8.decode s pos).2 : Int)) ∧ w' = w) := HRL.out hw
        by_cases hb0 : K = 0
        · subst hb0
          have HE : Hid (splitF s fuel (pos + (Utf8.decode s pos).2) l 0 = G) := by show _ = _; rw [← HS.out, splitF_blank hp HK.out]
          have HC2 : Hid (Cov s 0 l (pos + (Utf8.decode s pos).2)) := Cov_blank hp HK.out HC.out
          clear HRL HRL2
          go_wp2_with fail
          go_roundw
          case rel => exact ⟨pos + (Utf8.decode s pos).2, fuel, l, 0, rfl, by omega, by omega, HI2.out, HE, by omega, HC2.out, .inl rfl⟩
          case measure => rw [hpos0.out, iterPos_eq HI2.out.it]; omega
        · by_cases hnew : K = 3 ∨ K ≠ k
          · have HE : Hid (splitF s fuel (pos + (Utf8.decode s pos).2) (l ++ [(K, pos, pos + (Utf8.decode s pos).2)]) K = G) := by show _ = _; rw [← HS.out, splitF_new hp (by rw [HK.out]; exact hw) (by rw [HK.out]; exact hb0) (by rw [HK.out]; exact hnew), HK.out]
            have HC2 : Hid (Cov s 0 (l ++ [(K, pos, pos + (Utf8.decode s pos).2)]) (pos + (Utf8.decode s pos).2)) := Cov_new K hp HC.out
            obtain ⟨n, hn⟩ : ∃ n, l.length = n := ⟨_, rfl⟩
            have hn2 : n ≤ 2048 := by omega
            have hn3 : (0 : Int) ≤ (n : Int) := by omega
            have hn4 : (n : Int) ≤ 2048 := by omega
            have hwr : IntKind.i64.wrap ((pos : Int) + ((Utf8.decode s pos).2 : Int)) = ((pos + (Utf8.decode s pos).2 : Nat) : Int) := by rw [IntKind.wrap_i64]; omega
            have hb1 : (pos : Int) ≤ (pos : Int) + ((Utf8.decode s pos).2 : Int) := by omega
            have hb2 : (pos : Int) + ((Utf8.decode s pos).2 : Int) ≤ (s.size : Int) := by omega
            have hb3 : (0 : Int) ≤ (pos : Int) := by omega
            have hb4 : (0 : Int) ≤ (pos : Int) + ((Utf8.decode s pos).2 : Int) := by omega
            have c55 : Tryd.prog.cellsOf 73 = 3 := by kernel_rfl
            have HI3 : Hid (SInv w s w2 u5 (pos + (Utf8.decode s pos).2) n (flatP s l)) := by have := HI2.out; rw [hn] at this; exact this
            have hlt2 : w.heap.size < w2.heap.size := (Array.getElem?_eq_some_iff.1 HI3.out.it).1
            have hr1 : some w.heap.size ≠ u5.ownBlock := fun e => by have := (HI3.out.own.lt _ e.symm).1; omega
            have HRr : Hid (∀ k, u5.ownBlock = some k → w.heap.size ≤ k) := fun k hk => by have := (HI3.out.own.lt _ hk).1; omega
            have hK3 : (K = 3 ∨ (K == 3) = false ∧ (K == k) = false) := by
              by_cases z : K = 3
              · exact .inl z
              · right; constructor
                · simp; exact z
                · simp; omega
            have hKr2 : 1 ≤ K ∧ K ≤ 3 := by omega
            obtain ⟨K1, K2⟩ := hKr2
            have hK0 : (K == 0) = false := by simp; omega
            have hKm : (K == -1) = false := by simp; omega
            clear HRL hKr HI2 HS HL HC hln hnew hw hb0
            rcases HI3.out.own.2 with ⟨e0, -⟩ | ⟨g0, cap0, cur, e0, _, _, _, _, _, _⟩
            all_goals
              subst e0
              rcases hK3 with rfl | ⟨y1, y2⟩
              all_goals
                go_wp2_with (first
                  | (at_builtin; refine wpList_append_own _ rfl _ _ 69 rfl (w.heap.size + 1) 73 i0 (.agg #[vi ki 0, vS ByteArray.empty, vi ki 0]) 3 32 Tryd.underlying69 hi hz0 hz1 hz2 rfl (by decide) _ n (flatP s l) rfl (HI3.out.own.alloc _) ⟨w2.heap.size, 0, none⟩ 1 1 [vi ki _, vS ByteArray.empty, vi ki (pos : Int)] rfl rfl (part_new _ _ _ _ _) (part_one _ _ _) (by unfold maxLen; omega) (by omega) (by simp; omega) ?_; intro v' w3 hown' hgrow3 hnil3
                     have HJ : Hid (SInv w s w3 v' (pos + (Utf8.decode s pos).2) (n + 1) (flatP s l ++ [vi ki _, vS ByteArray.empty, vi ki (pos : Int)])) := ⟨by rw [hgrow3.block _ (by simp; omega) hr1, Below.heap_alloc _ _ _ hlt2]; exact HI3.out.it, hown', Below.grown (HI3.out.low.alloc (by omega) _) hgrow3 (by simp; omega) HRr.out⟩
                     clear hown' hgrow3 hnil3
                     obtain ⟨g, cap, e1, hg, hc1, hc2⟩ := HJ.out.form
                     subst e1
                     unfold maxLen at hc2))
                refine wp_region_held_drew (S := fun W => SLast w s W g cap (pos + (Utf8.decode s pos).2) n l _ pos) (by kernel_rfl) ⟨_, HJ.out.drewed⟩ (fun hHeld => ?_)
                refine tks 0 ?_
                simp only [za, zb, zc, zd]
                refine tks 1 ?_
                simp only [za, zb, zc, zd]
                refine tks 2 ?_
                simp only [za, zb, zc, zd]
                refine tks 3 ?_
                simp only [za, zb, zc, zd]
                refine tks 4 ?_
                simp only [za, zb, zc, zd]
                refine tk (v := ?_) 5 ?_ ?_
                case refine_2 => (intro w9 hSw; obtain ⟨t, hSw⟩ := hSw; obtain ⟨sa, sb, sc⟩ := SInv.last hSw hn; clear hSw; go_simp; try with_reducible rfl)
                simp only [za, zb, zc, zd]
                refine tks 6 ?_
                simp only [za, zb, zc, zd]
                refine tks 7 ?_
                simp only [za, zb, zc, zd]
                refine rd 8 (fun K hK => ?_)
                go_simp
                refine (HRL2.out _).mono ?_
                rintro e w4 ⟨rfl, rfl⟩
                refine hK.out _ _ hHeld (fun hHeld => ?_)
                clear hK K
                refine tks 9 ?_
                simp only [za, zb, zc, zd]
                refine tks 10 ?_
                simp only [za, zb, zc, zd]
                refine tks 11 ?_
                simp only [za, zb, zc, zd]
                refine tks 12 ?_
                simp only [za, zb, zc, zd]
                obtain ⟨t0, hh⟩ := hHeld
                obtain ⟨sa, sb, sc⟩ := SInv.last hh hn
                have HN := hh.store hn hg (pos + (Utf8.decode s pos).2)
                refine rd 13 (fun K hK => ?_)
                go_simp
                refine hK.out _ _ HN.lastT (fun hHeld2 => ?_)
                clear hK K hHeld2 sa sb sc
                have HM := hZz HN
                clear HN hh
                refine dn ?_
                go_wp2_with fail
                go_roundw
                case rel =>
                  refine ⟨pos + (Utf8.decode s pos).2, fuel, l ++ [(_, pos, pos + (Utf8.decode s pos).2)], _, rfl, by omega, by omega, ?_, HE, by omega, HC2.out, .inr ⟨_, _, _, rfl⟩⟩
                  have := HM.out
                  rw [List.length_append, hn]
                  exact this
                case measure => rw [hpos0.out]; exact Nat.lt_of_le_of_lt (Nat.le_of_eq (congrArg (fun z => s.size - z) (iterPos_eq HM.out.it))) (by show s.size - (pos + (Utf8.decode s pos).2) < s.size - pos; omega)
          · obtain ⟨h3, hk⟩ : K ≠ 3 ∧ K = k := by omega
            subst hk
            rcases HL.out with z | ⟨l', q, x, rfl⟩
            · exact absurd z hb0
            · have hKr2 : K = 1 ∨ K = 2 := by omega
              have HE : Hid (splitF s fuel (pos + (Utf8.decode s pos).2) (l' ++ [(q, x, pos + (Utf8.decode s pos).2)]) K = G) := by show _ = _; rw [← HS.out, splitF_more hp (by rw [HK.out]; exact hw) (by rw [HK.out]; exact hb0) (by rw [HK.out]; exact h3) HK.out]
              have HC2 : Hid (Cov s 0 (l' ++ [(q, x, pos + (Utf8.decode s pos).2)]) (pos + (Utf8.decode s pos).2)) := Cov_ext hp HC.out
              obtain ⟨n, hn⟩ : ∃ n, l'.length = n := ⟨_, rfl⟩
              have HI3 : Hid (SInv w s w2 u5 (pos + (Utf8.decode s pos).2) (n + 1) (flatP s l' ++ [vi ki q, vS (s.extract x pos), vi ki (x : Int)])) := by
                have := HI2.out
                rw [flatP_append, List.length_append, hn] at this
                exact this
              obtain ⟨g, cap, e0, hg, hc1, hc2⟩ := HI3.out.form
              subst e0
              have hxp : x < pos := ((Cov_snoc s q x pos pos l' 0).1 HC.out).2.1
              have hn2 : n ≤ 2048 := by simp only [List.length_append, hn] at hln; omega
              have hn3 : (0 : Int) ≤ (n : Int) := by omega
              have hn4 : (n : Int) ≤ 2048 := by omega
              have hwr : IntKind.i64.wrap ((pos : Int) + ((Utf8.decode s pos).2 : Int)) = ((pos + (Utf8.decode s pos).2 : Nat) : Int) := by rw [IntKind.wrap_i64]; omega
              have hb1 : (x : Int) ≤ (pos : Int) + ((Utf8.decode s pos).2 : Int) := by omega
              have hb2 : (pos : Int) + ((Utf8.decode s pos).2 : Int) ≤ (s.size : Int) := by omega
              have hb3 : (0 : Int) ≤ (x : Int) := by omega
              have hb4 : (0 : Int) ≤ (pos : Int) + ((Utf8.decode s pos).2 : Int) := by omega
              have c55 : Tryd.prog.cellsOf 73 = 3 := by kernel_rfl
              unfold maxLen at hc2
              clear HRL hKr HI2 HS HL HC hln hnew hw hb0 h3 k0 k3
              rcases hKr2 with rfl | rfl
              all_goals
                go_wp2_with fail
                refine wp_region_held_drew (S := fun W => SLast w s W g cap (pos + (Utf8.decode s pos).2) n l' q x) (by kernel_rfl) ⟨_, HI3.out.drewed⟩ (fun hHeld => ?_)
                refine tks 0 ?_
                simp only [za, zb, zc, zd]
                refine tks 1 ?_
                simp only [za, zb, zc, zd]
                refine tks 2 ?_
                simp only [za, zb, zc, zd]
                refine tks 3 ?_
                simp only [za, zb, zc, zd]
                refine tks 4 ?_
                simp only [za, zb, zc, zd]
                refine tk (v := ?_) 5 ?_ ?_
                case refine_2 => (intro w9 hSw; obtain ⟨t, hSw⟩ := hSw; obtain ⟨sa, sb, sc⟩ := SInv.last hSw hn; clear hSw; go_simp; try with_reducible rfl)
                simp only [za, zb, zc, zd]
                refine tks 6 ?_
                simp only [za, zb, zc, zd]
                refine tks 7 ?_
                simp only [za, zb, zc, zd]
                refine rd 8 (fun K hK => ?_)
                go_simp
                refine (HRL2.out _).mono ?_
                rintro e w4 ⟨rfl, rfl⟩
                refine hK.out _ _ hHeld (fun hHeld => ?_)
                clear hK K
                refine tks 9 ?_
                simp only [za, zb, zc, zd]
                refine tks 10 ?_
                simp only [za, zb, zc, zd]
                refine tks 11 ?_
                simp only [za, zb, zc, zd]
                refine tks 12 ?_
                simp only [za, zb, zc, zd]
                obtain ⟨t0, hh⟩ := hHeld
                obtain ⟨sa, sb, sc⟩ := SInv.last hh hn
                have HN := hh.store hn hg (pos + (Utf8.decode s pos).2)
                refine rd 13 (fun K hK => ?_)
                go_simp
                refine hK.out _ _ HN.lastT (fun hHeld2 => ?_)
                clear hK K hHeld2 sa sb sc
                have HM := hZz HN
                clear HN hh
                refine dn ?_
                go_wp2_with fail
                go_roundw
                case rel =>
                  refine ⟨pos + (Utf8.decode s pos).2, fuel, l' ++ [(q, x, pos + (Utf8.decode s pos).2)], _, rfl, by omega, by omega, ?_, HE, by omega, HC2.out, .inr ⟨_, _, _, rfl⟩⟩
                  have := HM.out
                  rw [List.length_append, hn]
                  exact this
                case measure => rw [hpos0.out]; exact Nat.lt_of_le_of_lt (Nat.le_of_eq (congrArg (fun z => s.size - z) (iterPos_eq HM.out.it))) (by show s.size - (pos + (Utf8.decode s pos).2) < s.size - pos; omega)
    · have hnx : ∀ ty, (Instr.next (.pointer (some ⟨w.heap.size, 0, none⟩)) true ty).run Tryd.prog wr = _ := fun ty => Lib.run_next_end_at wr w.heap.size s pos ty I.it hp
      have e : G = .inr l := by rw [← HS.out]; exact splitF_end s fuel pos l _ hp
      subst e
      have HI := hZz I
      clear I
      go_wp2_with fail
      go_ret3
      exact ⟨HI.out.low, split_yes _ rfl (ownsRow_lower HI.out.own (by omega))⟩
theorem wsplit_long (s : ByteArray) (w : World) (hs : s.size ≤ maxLen) (hsz : ¬ s.size ≤ 2048) :
  Calls Tryd.prog 23 #[vS s] w fun e w' => e = zr (.tuple #[vL none 0 0, vi ki 0, vi ki 3]) ∧ w' = w := by
 unfold maxLen at hs
 have hsi : (2048 : Int) < (s.size : Int) := by omega
 go_enter Tryd.func23, Tryd.ntmps23
 go_wp2_with fail
 go_ret3
 exact ⟨rfl, rfl⟩
abbrev PT := Int × ByteArray × Int
def flatT : List PT → List Value
 | [] => []
 | p :: l => vi ki p.1 :: vS p.2.1 :: vi ki p.2.2 :: flatT l
theorem flatT_append : ∀ (l k : List PT), flatT (l ++ k) = flatT l ++ flatT k
 | [], k => rfl
 | r :: l, k => by simp [flatT, flatT_append l k]
theorem flatT_at : ∀ (l : List PT) (i : Nat) (r : PT), l[i]? = some r → (flatT l)[i * 3]? = some (vi ki r.1) ∧ (flatT l)[i * 3 + 1]? = some (vS r.2.1) ∧ (flatT l)[i * 3 + 2]? = some (vi ki r.2.2)
 | [], i, r, h => by simp at h
 | x :: l, 0, r, h => by simp at h; subst h; exact ⟨rfl, rfl, rfl⟩
 | x :: l, i + 1, r, h => by
  have q := flatT_at l i r (by simpa using h)
  rw [show (i + 1) * 3 = i * 3 + 1 + 1 + 1 by omega]
  exact q
def texts (s : ByteArray) (l : List Prt) : List PT := l.map fun p => (p.1, s.extract p.2.1 p.2.2, (p.2.1 : Int))
theorem flatP_texts (s : ByteArray) : ∀ l, flatP s l = flatT (texts s l)
 | [] => rfl
 | p :: l => by simp [flatP, texts, flatT]; exact flatP_texts s l
theorem texts_length (s : ByteArray) (l : List Prt) : (texts s l).length = l.length := by simp [texts]
theorem infoRPart : (Tryd.prog.info? 86).map (fun i => (i.zero, i.size, i.bytes)) = some (some (.agg #[vi ki 0, vS ByteArray.empty, vi ki 0]), 3, 32) := by kernel_rfl
structure Kp (g : Nat) (w W : World) : Prop where
 os : W.os = w.os
 tape : W.tape = w.tape
 output : W.output = w.output
 size : w.heap.size ≤ W.heap.size
 block : ∀ k, k < w.heap.size → k ≠ g → W.heap[k]? = w.heap[k]?
theorem Kp.refl (g : Nat) (w : World) : Kp g w w := ⟨rfl, rfl, rfl, Nat.le_refl _, fun _ _ _ => rfl⟩
theorem Kp.trans {g : Nat} {a b c : World} (h : Kp g a b) (k : Kp g b c) : Kp g a c :=
 ⟨k.os.trans h.os, k.tape.trans h.tape, k.output.trans h.output, Nat.le_trans h.size k.size, fun i hi hg => (k.block i (Nat.lt_of_lt_of_le hi h.size) hg).trans (h.block i hi hg)⟩
theorem Kp.of {g : Nat} {w W : World} (h : Below w.heap.size w W) : Kp g w W := ⟨h.os, h.tape, h.output, h.size, fun k hk _ => h.block k hk⟩
theorem Kp.below {g B : Nat} {w W : World} (h : Kp g w W) (hg : B ≤ g) (hB : B ≤ w.heap.size) : Below B w W := ⟨h.os, h.tape, h.output, h.size, fun k hk => h.block k (by omega) (by omega)⟩
theorem Kp.drew {g : Nat} {a w : World} (h : Kp g a w) : Kp g a w.drew := ⟨h.os, h.tape, h.output, h.size, h.block⟩
theorem Kp.alloc {g : Nat} {a w : World} (h : Kp g a w) (o : Obj) : Kp g a (w.alloc o) := h.trans (.of ((Below.refl _ _).alloc (Nat.le_refl _) o))
theorem Kp.set {g : Nat} {a w : World} (h : Kp g a w) {p : Addr} (hp : p.block = g ∨ a.heap.size ≤ p.block) (u : Value) : Kp g a (w.setCell p u) :=
 ⟨h.os, h.tape, h.output, by simpa using h.size, fun k hk hg => by
  rw [Below.heap_setCell _ _ _ _ (by rcases hp with e | e <;> omega)]; exact h.block k hk hg⟩
theorem Kp.sets {g : Nat} {a : World} {b : Nat} (hb : b = g ∨ a.heap.size ≤ b) : ∀ (vs : List Value) (W : World) (i : Nat), Kp g a W → Kp g a (W.setCells b i vs)
 | [], _, _, h => h
 | v :: vs, W, i, h => Kp.sets hb vs _ _ (h.set (p := ⟨b, i, none⟩) hb v)
theorem Kp.cell {g : Nat} {w W : World} (h : Kp g w W) {p : Addr} (hp : p.block < w.heap.size) (hg : p.block ≠ g) : W.cell? p = w.cell? p := World.cell?_of_block (w := w) (h.block _ hp hg)
theorem Kp.bx {g : Nat} {w W : World} (h : Kp g w W) {b : Nat} {l : List Value} (hb : Bx w b l) (hg : b ≠ g) : Bx W b l :=
 ⟨Nat.lt_of_lt_of_le hb.1 h.size, fun i v e => ⟨(h.cell (p := ⟨b, i, none⟩) hb.1 hg).trans (hb.2 i v e).1, (World.frozen?_of_block (w := w) (a := ⟨b, i, none⟩) (h.block _ hb.1 hg)).trans (hb.2 i v e).2⟩⟩
theorem bxk {g : Nat} {w W V : World} {l : List (Nat × List Value)} {b : Nat} {c : List Value} (hk : Kp g W V) (h : Hid (BS w l W)) (i : Nat) (e : l[i]? = some (b, c) := by rfl) (hn : b ≠ g := by omega) : Hid (Bx V b c) := hk.bx (h.out.at b c (List.mem_of_getElem? e)) hn
theorem bxh {g : Nat} {W V : World} {b : Nat} {c : List Value} (hk : Kp g W V) (h : Hid (Bx W b c)) (hn : b ≠ g := by omega) : Hid (Bx V b c) := hk.bx h.out hn
theorem bxb {g : Nat} {W X V : World} {l : List (Nat × List Value)} {b : Nat} {c : List Value} (hk : Kp g X V) (h : Hid (Bx W b c)) (k : Hid (BS W l X)) (hn : b ≠ g := by omega) : Hid (Bx V b c) := hk.bx (h.out.below k.out.1) hn
theorem hzk {g n : Nat} {a b : World} (hk : Kp g a b) (e : n ≤ a.heap.size := by first | (simp; done) | (simp; omega) | omega) : n ≤ b.heap.size := Nat.le_trans e hk.size
theorem kpo (g : Nat) {w W : World} {l : List (Nat × List Value)} (h : BS w l W) : Hid (Kp g w W) := Kp.of h.1
theorem kpt {g : Nat} {w W V : World} {l : List (Nat × List Value)} (h : Hid (BS w l W)) (hk : Kp g W V) : Hid (Kp g w V) := (Kp.of h.out.1).trans hk
theorem kph {g : Nat} {w W V : World} (h : Hid (Kp g w W)) (hk : Kp g W V) : Hid (Kp g w V) := h.out.trans hk
def KB (g : Nat) (w : World) (l : List (Nat × List Value)) (W : World) : Prop := Kp g w W ∧ ∀ x ∈ l, w.heap.size ≤ x.1 ∧ x.1 ≠ g ∧ Bx W x.1 x.2
theorem KB.first {g : Nat} {w W : World} {l : List (Nat × List Value)} {b : Nat} {cs : List Value} (h : KB g w ((b, cs) :: l) W) : Bx W b cs := (h.2 (b, cs) List.mem_cons_self).2.2
mutual
def NdAt (X : Nat → Prop) (w : World) : Nd → List Value → Prop
 | .mk k t ks a, cs => ∃ sv, cs = [vi ki k, vS t, sv, vi ki a] ∧ ((ks = [] ∧ sv = vL none 0 0) ∨ ∃ b cap, sv = vL (some ⟨b, 0, none⟩) ks.length cap ∧ 0 < ks.length ∧ ks.length ≤ cap ∧ cap ≤ maxLen ∧ X b ∧ b < w.heap.size ∧ RwAt X w b 0 ks)
def RwAt (X : Nat → Prop) (w : World) (b : Nat) : Nat → List Nd → Prop
 | _, [] => True
 | i, n :: l => (∃ c0 c1 c2 c3, w.cell? ⟨b, i * 4, none⟩ = some c0 ∧ w.cell? ⟨b, i * 4 + 1, none⟩ = some c1 ∧ w.cell? ⟨b, i * 4 + 2, none⟩ = some c2 ∧ w.cell? ⟨b, i * 4 + 3, none⟩ = some c3 ∧ NdAt X w n [c0, c1, c2, c3]) ∧ RwAt X w b (i + 1) l
end
mutual
theorem NdAt.keep {X Y : Nat → Prop} {w W : World} (hs : w.heap.size ≤ W.heap.size) (h : ∀ b, X b → b < w.heap.size → Y b ∧ W.heap[b]? = w.heap[b]?) : ∀ (n : Nd) (cs : List Value), NdAt X w n cs → NdAt Y W n cs
 | .mk k t ks a, cs, hn => by
  rw [NdAt] at hn ⊢
  obtain ⟨sv, e, hv⟩ := hn
  refine ⟨sv, e, ?_⟩
  rcases hv with hv | ⟨b, cap, e1, e0, e2, e3, e4, e5, e6⟩
  ·exact .inl hv
  ·exact .inr ⟨b, cap, e1, e0, e2, e3, (h b e4 e5).1, Nat.lt_of_lt_of_le e5 hs, RwAt.keep hs h ks b 0 e4 e5 e6⟩
theorem RwAt.keep {X Y : Nat → Prop} {w W : World} (hs : w.heap.size ≤ W.heap.size) (h : ∀ b, X b → b < w.heap.size → Y b ∧ W.heap[b]? = w.heap[b]?) : ∀ (l : List Nd) (b i : Nat), X b → b < w.heap.size → RwAt X w b i l → RwAt Y W b i l
 | [], b, i, hb, hs, hr => by rw [RwAt]; trivial
 | n :: l, b, i, hb, hz, hr => by
  rw [RwAt] at hr ⊢
  obtain ⟨⟨c0, c1, c2, c3, h0, h1, h2, h3, hn⟩, hr⟩ := hr
  have q := (h b hb hz).2
  exact ⟨⟨c0, c1, c2, c3, (World.cell?_of_block (w := w) (a := ⟨b, i * 4, none⟩) q).trans h0, (World.cell?_of_block (w := w) (a := ⟨b, i * 4 + 1, none⟩) q).trans h1, (World.cell?_of_block (w := w) (a := ⟨b, i * 4 + 2, none⟩) q).trans h2, (World.cell?_of_block (w := w) (a := ⟨b, i * 4 + 3, none⟩) q).trans h3, NdAt.keep hs h n _ hn⟩, RwAt.keep hs h l b (i + 1) hb hz hr⟩
end
theorem NdAt.kp {g : Nat} {X Y : Nat → Prop} {w W : World} {n : Nd} {cs : List Value} (h : NdAt X w n cs) (k : Kp g w W) (hX : ∀ b, X b → Y b ∧ b ≠ g) : NdAt Y W n cs :=
 NdAt.keep k.size (fun b hb hz => ⟨(hX b hb).1, k.block b hz (hX b hb).2⟩) n cs h
theorem NdAt.off {X Y : Nat → Prop} {w W : World} {n : Nd} {cs : List Value} (h : NdAt X w n cs) {r : Nat} (k : ∀ b, b < w.heap.size → b ≠ r → W.heap[b]? = w.heap[b]?) (hz : w.heap.size ≤ W.heap.size) (hX : ∀ b, X b → Y b ∧ b ≠ r) : NdAt Y W n cs :=
 NdAt.keep hz (fun b hb hl => ⟨(hX b hb).1, k b hl (hX b hb).2⟩) n cs h
theorem NdAt.leaf (X : Nat → Prop) (w : World) (k : Int) (t : ByteArray) (a : Int) : NdAt X w (.mk k t [] a) [vi ki k, vS t, vL none 0 0, vi ki a] := by
 rw [NdAt]; exact ⟨_, rfl, .inl ⟨rfl, rfl⟩⟩
theorem NdAt.row {X : Nat → Prop} {w : World} {k : Int} {t : ByteArray} {ks : List Nd} {a : Int} {b cap : Nat} (h0 : 0 < ks.length) (h1 : ks.length ≤ cap) (h2 : cap ≤ maxLen) (hX : X b) (hb : b < w.heap.size) (h : RwAt X w b 0 ks) :
  NdAt X w (.mk k t ks a) [vi ki k, vS t, vL (some ⟨b, 0, none⟩) ks.length cap, vi ki a] := by
 rw [NdAt]; exact ⟨_, rfl, .inr ⟨b, cap, rfl, h0, h1, h2, hX, hb, h⟩⟩
theorem RwAt.one {X : Nat → Prop} {w : World} {b : Nat} {n : Nd} {c0 c1 c2 c3 : Value} (hb : Bx w b [c0, c1, c2, c3]) (h : NdAt X w n [c0, c1, c2, c3]) : RwAt X w b 0 [n] := by
 rw [RwAt]; exact ⟨⟨c0, c1, c2, c3, hb.c 0 rfl, hb.c 1 rfl, hb.c 2 rfl, hb.c 3 rfl, h⟩, by rw [RwAt]; trivial⟩
theorem RwAt.two {X : Nat → Prop} {w : World} {b : Nat} {n m : Nd} {c0 c1 c2 c3 d0 d1 d2 d3 : Value} (hb : Bx w b [c0, c1, c2, c3, d0, d1, d2, d3]) (h : NdAt X w n [c0, c1, c2, c3]) (h2 : NdAt X w m [d0, d1, d2, d3]) : RwAt X w b 0 [n, m] := by
 rw [RwAt]; exact ⟨⟨c0, c1, c2, c3, hb.c 0 rfl, hb.c 1 rfl, hb.c 2 rfl, hb.c 3 rfl, h⟩, by rw [RwAt]; exact ⟨⟨d0, d1, d2, d3, hb.c 4 rfl, hb.c 5 rfl, hb.c 6 rfl, hb.c 7 rfl, h2⟩, by rw [RwAt]; trivial⟩⟩
def TR (w : World) (b : Nat) (T : List Tk) : Prop := b < w.heap.size ∧ ∀ i v, (flatT T)[i]? = some v → w.cell? ⟨b, i, none⟩ = some v
theorem TR.kp {g : Nat} {w W : World} {b : Nat} {T : List Tk} (h : TR w b T) (k : Kp g w W) (hb : b ≠ g) : TR W b T :=
 ⟨Nat.lt_of_lt_of_le h.1 k.size, fun i v e => (k.cell (p := ⟨b, i, none⟩) h.1 hb).trans (h.2 i v e)⟩
theorem TR.at {w : World} {b : Nat} {T pre L : List Tk} {p : Tk} (h : TR w b T) (e : T = pre ++ p :: L) :
  w.cell? ⟨b, pre.length * 3, none⟩ = some (vi ki p.1) ∧ w.cell? ⟨b, pre.length * 3 + 1, none⟩ = some (vS p.2.1) ∧ w.cell? ⟨b, pre.length * 3 + 2, none⟩ = some (vi ki p.2.2) := by
 have q := flatT_at T pre.length p (by rw [e]; simp)
 exact ⟨h.2 _ _ q.1, h.2 _ _ q.2.1, h.2 _ _ q.2.2⟩
structure PS (g b cap : Nat) (T : List Tk) (w : World) (L : List Tk) (d : Nat) : Prop where
 bx : ∃ (pre : List Tk) (a e : Int), T = pre ++ L ∧ Bx w g [vL (some ⟨b, pre.length * 3, none⟩) L.length (cap - pre.length), vi ki (d : Int), vi ki a, vi ki e]
 tr : TR w b T
 ne : b ≠ g
 le : T.length ≤ cap
 most : cap ≤ maxLen
def PF (g : Nat) (w : World) (d : Nat) (a e : Int) : Prop := ∃ left, Bx w g [left, vi ki (d : Int), vi ki a, vi ki e] ∧ left.oneCell' = true
theorem PS.lt {g b cap : Nat} {T : List Tk} {w : World} {L : List Tk} {d : Nat} (h : PS g b cap T w L d) : g < w.heap.size := by
 obtain ⟨_, _, _, _, h⟩ := h.bx; exact h.1
theorem PS.keep {g b cap : Nat} {T : List Tk} {w W : World} {L : List Tk} {d : Nat} (h : PS g b cap T w L d) (hs : w.heap.size ≤ W.heap.size) (k : ∀ c, c = g ∨ c = b → W.heap[c]? = w.heap[c]?) : PS g b cap T W L d := by
 obtain ⟨⟨pre, a, e, h1, h2⟩, h3, h4, h5, h6⟩ := h
 have q := k g (.inl rfl)
 exact ⟨⟨pre, a, e, h1, Nat.lt_of_lt_of_le h2.1 hs, fun i v hv => ⟨(World.cell?_of_block (w := w) (a := ⟨g, i, none⟩) q).trans (h2.2 i v hv).1, (World.frozen?_of_block (w := w) (a := ⟨g, i, none⟩) q).trans (h2.2 i v hv).2⟩⟩, ⟨Nat.lt_of_lt_of_le h3.1 hs, fun i v hv => (World.cell?_of_block (w := w) (a := ⟨b, i, none⟩) (k b (.inr rfl))).trans (h3.2 i v hv)⟩, h4, h5, h6⟩
theorem PS.below {g b cap : Nat} {T : List Tk} {w W : World} {L : List Tk} {d : Nat} (h : PS g b cap T w L d) (k : Below w.heap.size w W) : PS g b cap T W L d :=
 h.keep k.size fun c hc => k.block c (by rcases hc with rfl | rfl; exact h.lt; exact h.tr.1)
theorem PF.keep {g : Nat} {w W : World} {d : Nat} {a e : Int} (h : PF g w d a e) (hs : w.heap.size ≤ W.heap.size) (k : W.heap[g]? = w.heap[g]?) : PF g W d a e := by
 obtain ⟨l, h2, h3⟩ := h
 exact ⟨l, ⟨Nat.lt_of_lt_of_le h2.1 hs, fun i v hv => ⟨(World.cell?_of_block (w := w) (a := ⟨g, i, none⟩) k).trans (h2.2 i v hv).1, (World.frozen?_of_block (w := w) (a := ⟨g, i, none⟩) k).trans (h2.2 i v hv).2⟩⟩, h3⟩
theorem PS.off {g b cap : Nat} {T : List Tk} {w W : World} {L : List Tk} {d : Nat} (h : PS g b cap T w L d) {r : Nat} (k : ∀ c, c < w.heap.size → c ≠ r → W.heap[c]? = w.heap[c]?) (hz : w.heap.size ≤ W.heap.size) (h1 : g ≠ r) (h2 : b ≠ r) : PS g b cap T W L d :=
 h.keep hz fun c hc => by rcases hc with rfl | rfl; exact k _ h.lt h1; exact k _ h.tr.1 h2
theorem PF.off {g : Nat} {w W : World} {d : Nat} {a e : Int} (h : PF g w d a e) {r : Nat} (k : ∀ c, c < w.heap.size → c ≠ r → W.heap[c]? = w.heap[c]?) (hz : w.heap.size ≤ W.heap.size) (h1 : g ≠ r) : PF g W d a e :=
 h.keep hz (k g (by obtain ⟨_, h, _⟩ := h; exact h.1) h1)
theorem fold_alloc {g : Nat} {w : World} : ∀ (os : List Obj) (W : World), Kp g w W → (Kp g w (os.foldl World.alloc W) ∧ W.heap.size ≤ (os.foldl World.alloc W).heap.size ∧ (∀ k, k < W.heap.size → (os.foldl World.alloc W).heap[k]? = W.heap[k]?) ∧ ∀ b l, Bx W b l → Bx (os.foldl World.alloc W) b l)
 | [], W, h => ⟨h, Nat.le_refl _, fun _ _ => rfl, fun _ _ h => h⟩
 | o :: os, W, h => by
  obtain ⟨q1, q2, q3, q4⟩ := fold_alloc os (W.alloc o) (h.alloc o)
  refine ⟨q1, Nat.le_trans (by simp) q2, fun k hk => (q3 k (by simp; omega)).trans (Below.heap_alloc _ _ _ hk), fun b l hb => q4 b l (hb.alloc o)⟩
theorem fin4 {g : Nat} {w W : World} {r : Nat} {z0 z1 z2 z3 : Value} (os : List Obj) (v0 v1 v2 v3 : Value) (hk : Kp g w W) (hr : w.heap.size ≤ r) (hb : Bx W r [z0, z1, z2, z3]) :
  Kp g w (os.foldl World.alloc (W.setCells r 0 [v0, v1, v2, v3])) ∧ Bx (os.foldl World.alloc (W.setCells r 0 [v0, v1, v2, v3])) r [v0, v1, v2, v3] ∧ (∀ k, k < W.heap.size → k ≠ r → (os.foldl World.alloc (W.setCells r 0 [v0, v1, v2, v3])).heap[k]? = W.heap[k]?) ∧ W.heap.size ≤ (os.foldl World.alloc (W.setCells r 0 [v0, v1, v2, v3])).heap.size := by
 have hz : (W.setCells r 0 [v0, v1, v2, v3]).heap.size = W.heap.size := setCells_size _ _ _ _
 obtain ⟨q1, q2, q3, q4⟩ := fold_alloc os (W.setCells r 0 [v0, v1, v2, v3]) (Kp.sets (.inr hr) _ _ _ hk)
 refine ⟨q1, q4 _ _ (hb.setAll _ rfl), fun k h0 h => (q3 k (by omega)).trans ?_, by omega⟩
 simp only [World.setCells]
 rw [Below.heap_setCell _ _ _ _ h, Below.heap_setCell _ _ _ _ h, Below.heap_setCell _ _ _ _ h, Below.heap_setCell _ _ _ _ h]
def Out (g b cap : Nat) (T : List Tk) (X : Nat → Prop) (w' : World) (d : Nat) (e : Ending) : PR → Prop
 | .ok n l1 => PS g b cap T w' l1 d ∧ EndL l1 ∧ ∃ k t sq sn sc a, e = zr (.tuple #[.agg #[vi ki k, vS t, vL sq sn sc, vi ki a], .bool true]) ∧ NdAt X w' n [vi ki k, vS t, vL sq sn sc, vi ki a]
 | .no a er => PF g w' d a er ∧ e = zr (.tuple #[.agg #[vi ki 0, vS ⟨#[]⟩, vL none 0 0, vi ki 0], .bool false])
/-- the result's block is written last: all that is wanted of it. -/
theorem fin8 {g : Nat} {w W : World} {r : Nat} {z0 z1 z2 z3 : Value} (os : List Obj) (v0 v1 v2 v3 : Value) (hk : Kp g w W) (hr : w.heap.size ≤ r) (hb : Bx W r [z0, z1, z2, z3]) :
  (os.foldl World.alloc (W.setCells r 0 [v0, v1, v2, v3])).cell? ⟨r, 0, none⟩ = some v0 ∧ (os.foldl World.alloc (W.setCells r 0 [v0, v1, v2, v3])).cell? ⟨r, 1, none⟩ = some v1 ∧ (os.foldl World.alloc (W.setCells r 0 [v0, v1, v2, v3])).cell? ⟨r, 2, none⟩ = some v2 ∧ (os.foldl World.alloc (W.setCells r 0 [v0, v1, v2, v3])).cell? ⟨r, 3, none⟩ = some v3 ∧
  Hid (Kp g w (os.foldl World.alloc (W.setCells r 0 [v0, v1, v2, v3]))) ∧ Hid (∀ k, k < W.heap.size → k ≠ r → (os.foldl World.alloc (W.setCells r 0 [v0, v1, v2, v3])).heap[k]? = W.heap[k]?) ∧ Hid (W.heap.size ≤ (os.foldl World.alloc (W.setCells r 0 [v0, v1, v2, v3])).heap.size) ∧
  W.cell? ⟨r, 0, none⟩ = some z0 ∧ W.cell? ⟨r, 1, none⟩ = some z1 ∧ W.cell? ⟨r, 2, none⟩ = some z2 ∧ W.cell? ⟨r, 3, none⟩ = some z3 ∧ W.frozen? ⟨r, 0, none⟩ = false ∧ W.frozen? ⟨r, 1, none⟩ = false ∧ W.frozen? ⟨r, 2, none⟩ = false ∧ W.frozen? ⟨r, 3, none⟩ = false ∧ r < W.heap.size := by
 obtain ⟨a, b, c, d⟩ := fin4 os v0 v1 v2 v3 hk hr hb
 exact ⟨b.c 0 rfl, b.c 1 rfl, b.c 2 rfl, b.c 3 rfl, a, c, d, hb.c 0 rfl, hb.c 1 rfl, hb.c 2 rfl, hb.c 3 rfl, hb.f 0 rfl, hb.f 1 rfl, hb.f 2 rfl, hb.f 3 rfl, hb.1⟩
theorem fin9 {g : Nat} {w W : World} {r : Nat} {z0 z1 z2 z3 : Value} (v0 v1 v2 v3 : Value) (hk : Kp g w W) (hr : w.heap.size ≤ r) (hb : Bx W r [z0, z1, z2, z3]) :
  ((((W.setCell ⟨r, 0, none⟩ v0).setCell ⟨r, 1, none⟩ v1).setCell ⟨r, 2, none⟩ v2).setCell ⟨r, 3, none⟩ v3).cell? ⟨r, 0, none⟩ = some v0 ∧ ((((W.setCell ⟨r, 0, none⟩ v0).setCell ⟨r, 1, none⟩ v1).setCell ⟨r, 2, none⟩ v2).setCell ⟨r, 3, none⟩ v3).cell? ⟨r, 1, none⟩ = some v1 ∧ ((((W.setCell ⟨r, 0, none⟩ v0).setCell ⟨r, 1, none⟩ v1).setCell ⟨r, 2, none⟩ v2).setCell ⟨r, 3, none⟩ v3).cell? ⟨r, 2, none⟩ = some v2 ∧ ((((W.setCell ⟨r, 0, none⟩ v0).setCell ⟨r, 1, none⟩ v1).setCell ⟨r, 2, none⟩ v2).setCell ⟨r, 3, none⟩ v3).cell? ⟨r, 3, none⟩ = some v3 ∧
  Hid (Kp g w (([] : List Obj).foldl World.alloc (W.setCells r 0 [v0, v1, v2, v3]))) ∧ Hid (∀ k, k < W.heap.size → k ≠ r → (([] : List Obj).foldl World.alloc (W.setCells r 0 [v0, v1, v2, v3])).heap[k]? = W.heap[k]?) ∧ Hid (W.heap.size ≤ (([] : List Obj).foldl World.alloc (W.setCells r 0 [v0, v1, v2, v3])).heap.size) ∧
  W.cell? ⟨r, 0, none⟩ = some z0 ∧ W.cell? ⟨r, 1, none⟩ = some z1 ∧ W.cell? ⟨r, 2, none⟩ = some z2 ∧ W.cell? ⟨r, 3, none⟩ = some z3 ∧ W.frozen? ⟨r, 0, none⟩ = false ∧ W.frozen? ⟨r, 1, none⟩ = false ∧ W.frozen? ⟨r, 2, none⟩ = false ∧ W.frozen? ⟨r, 3, none⟩ = false ∧ r < W.heap.size := fin8 [] v0 v1 v2 v3 hk hr hb
theorem fail_any (g : Nat) (left : Value) (d : Nat) (a0 e0 a er : Int) (w : World) (hb : Bx w g [left, vi ki (d : Int), vi ki a0, vi ki e0]) :
  Calls Tryd.prog 66 #[.pointer (some ⟨g, 0, none⟩), vi ki a, vi ki er] w fun e w' => e = zr (.tuple #[.agg #[vi ki 0, vS ⟨#[]⟩, vL none 0 0, vi ki 0], .bool false]) ∧ Kp g w w' ∧ Bx w' g [left, vi ki (d : Int), vi ki a, vi ki er] := by
 have c2 := hb.c 2 rfl
 have c3 := hb.c 3 rfl
 have z2 := hb.f 2 rfl
 have z3 := hb.f 3 rfl
 have hg := hb.1
 have HB := hZz hb
 clear hb
 go_enter Tryd.func66, Tryd.ntmps66
 go_wp2
 refine bodyPost_ret (v := .tuple #[.agg #[vi ki 0, vS ⟨#[]⟩, vL none 0 0, vi ki 0], .bool false]) (by simp [results, Tryd.results66, go_sem]) rfl ⟨rfl, ?_, ?_⟩
 ·exact (((Kp.refl g w).set (.inl rfl) _).set (.inl rfl) _).alloc _
 ·exact (((HB.out.set1 2 _ (by simp)).set1 3 _ (by simp)).alloc _)
theorem wrong_any (g b cap : Nat) (T : List Tk) (p : Tk) (l : List Tk) (d : Nat) (w : World) (h : PS g b cap T w (p :: l) d) :
  Calls Tryd.prog 53 #[.pointer (some ⟨g, 0, none⟩)] w fun e w' => e = zr (.tuple #[.agg #[vi ki 0, vS ⟨#[]⟩, vL none 0 0, vi ki 0], .bool false]) ∧ Kp g w w' ∧ PF g w' d p.2.2 30 := by
 obtain ⟨⟨pre, a0, e0, e, hb⟩, htr, hne, hle, hmost⟩ := h
 have HB := hZz hb
 have HT := hZz htr
 have c0 := hb.c 0 rfl
 have c1 := hb.c 1 rfl
 have z0 := hb.f 0 rfl
 have z1 := hb.f 1 rfl
 have hg := hb.1
 have hbl := htr.1
 obtain ⟨t0, t1, t2⟩ := htr.at e
 have HM := hZz hmost
 unfold maxLen at hmost
 have hlen : T.length = pre.length + l.length + 1 := by rw [e]; simp <;> omega
 clear hb htr
 go_enter Tryd.func53, Tryd.ntmps53
 go_wp2_with fail
 refine (fail_any g _ d a0 e0 p.2.2 30 _ (HB.out.alloc _)).mono ?_
 rintro e W ⟨rfl, hk, hx⟩
 have HK : Hid (Kp g w W) := ((Kp.refl g w).alloc _).trans hk
 have HX : Hid (Bx W w.heap.size _) := hk.bx (Bx.new w [vi ki 0, vS ⟨#[]⟩, vL none 0 0, vi ki 0] _) (by omega)
 have HP := hZz hx
 clear hk hx
 obtain ⟨y0', y1', y2', y3', HFK, HFO, HFS, r0, r1, r2, r3, s0, s1, s2, s3, hrw'⟩ := fin9 (vi ki 0) (vS ⟨#[]⟩) (vL none 0 0) (vi ki 0) HK.out (by omega) (HX.out)
 go_wp2
 refine bodyPost_ret (v := .tuple #[.agg #[vi ki 0, vS ⟨#[]⟩, vL none 0 0, vi ki 0], .bool false]) (by simp [results, Tryd.results53, go_sem, y0', y1', y2', y3']) rfl ⟨rfl, HFK.out, PF.off ⟨_, HP.out, rfl⟩ HFO.out HFS.out (by omega)⟩
theorem next_any (g b cap : Nat) (T : List Tk) (p q : Tk) (l : List Tk) (d : Nat) (w : World) (h : PS g b cap T w (p :: q :: l) d) :
  Calls Tryd.prog 54 #[.pointer (some ⟨g, 0, none⟩)] w fun e w' => e = zr (.agg #[vi ki p.1, vS p.2.1, vi ki p.2.2]) ∧ Kp g w w' ∧ PS g b cap T w' (q :: l) d := by
 obtain ⟨⟨pre, a0, e0, e, hb⟩, htr, hne, hle, hmost⟩ := h
 have HB := hZz hb
 have HT := hZz htr
 have c0 := hb.c 0 rfl
 have c1 := hb.c 1 rfl
 have z0 := hb.f 0 rfl
 have z1 := hb.f 1 rfl
 have hg := hb.1
 have hbl := htr.1
 obtain ⟨t0, t1, t2⟩ := htr.at e
 have HM := hZz hmost
 unfold maxLen at hmost
 have hlen : T.length = pre.length + l.length + 2 := by rw [e]; simp <;> omega
 clear hb htr
 go_enter Tryd.func54, Tryd.ntmps54
 go_wp2
 refine bodyPost_ret (v := .agg #[vi ki p.1, vS p.2.1, vi ki p.2.2]) (by simp [results, Tryd.results54, go_sem]) rfl ⟨rfl, ?_, ?_⟩
 ·exact (((Kp.refl g w).set (.inl rfl) _).alloc _).alloc _
 ·have q1 := ((HB.out.set1 0 (vL (some ⟨b, pre.length * 3 + 3, none⟩) (l.length + 1) (cap - pre.length - 1)) (by simp)).alloc (.cells #[vi ki p.1, vS p.2.1, vi ki p.2.2] 81)).alloc (.cells #[vi ki p.1, vS p.2.1, vi ki p.2.2] 81)
  refine ⟨⟨pre ++ [p], a0, e0, by rw [e]; simp, ?_⟩, ?_, hne, hle, HM.out⟩
  ·rw [show (pre ++ [p]).length * 3 = pre.length * 3 + 3 by simp; omega, show cap - (pre ++ [p]).length = cap - pre.length - 1 by simp; omega]; exact q1
  ·exact HT.out.kp ((((Kp.refl g w).set (p := ⟨g, 0, none⟩) (.inl rfl) _).alloc _).alloc _) hne
theorem next_end (g b cap : Nat) (T : List Tk) (p : Tk) (d : Nat) (w : World) (h : PS g b cap T w [p] d) :
  Calls Tryd.prog 54 #[.pointer (some ⟨g, 0, none⟩)] w fun e w' => e = zr (.agg #[vi ki p.1, vS p.2.1, vi ki p.2.2]) ∧ Kp g w w' := by
 have l : List Tk := []
 obtain ⟨⟨pre, a0, e0, e, hb⟩, htr, hne, hle, hmost⟩ := h
 have HB := hZz hb
 have HT := hZz htr
 have c0 := hb.c 0 rfl
 have c1 := hb.c 1 rfl
 have z0 := hb.f 0 rfl
 have z1 := hb.f 1 rfl
 have hg := hb.1
 have hbl := htr.1
 obtain ⟨t0, t1, t2⟩ := htr.at e
 have HM := hZz hmost
 unfold maxLen at hmost
 have hlen : T.length = pre.length + 1 := by rw [e]; simp <;> omega
 clear hb htr
 go_enter Tryd.func54, Tryd.ntmps54
 by_cases hc : cap - pre.length - 1 = 0
 all_goals
  go_wp2
  refine bodyPost_ret (v := .agg #[vi ki p.1, vS p.2.1, vi ki p.2.2]) (by simp [results, Tryd.results54, go_sem]) rfl ⟨rfl, ?_⟩
  exact (((Kp.refl g w).set (p := ⟨g, 0, none⟩) (.inl rfl) _).alloc _).alloc _
def fl2 : List (Int × ByteArray) → List Value
 | [] => []
 | x :: l => vi ki x.1 :: vS x.2 :: fl2 l
theorem fl2_at : ∀ (l : List (Int × ByteArray)) (i : Nat) (x : Int × ByteArray), l[i]? = some x → (fl2 l)[i * 2]? = some (vi ki x.1) ∧ (fl2 l)[i * 2 + 1]? = some (vS x.2)
 | [], i, x, h => by simp at h
 | y :: l, 0, x, h => by simp at h; subst h; exact ⟨rfl, rfl⟩
 | y :: l, i + 1, x, h => by
  have q := fl2_at l i x (by simpa using h)
  rw [show (i + 1) * 2 = i * 2 + 1 + 1 by omega]
  exact q
def isZ (k : Int) (t : ByteArray) (Z : List (Int × ByteArray)) : Bool := Z.any fun x => decide (k = x.1 ∧ t = x.2)
theorem isZ_isT (p : Tk) (Z : List (Int × ByteArray)) : isZ p.1 p.2.1 Z = isT p Z := rfl
theorem any_take {k : Int} {t : ByteArray} (Z : List (Int × ByteArray)) {j : Nat} {x : Int × ByteArray} (h : Z[j]? = some x) (h0 : isZ k t (Z.take j) = false) (h1 : ¬ (k = x.1 ∧ t = x.2)) : isZ k t (Z.take (j + 1)) = false := by
 unfold isZ at h0 ⊢
 rw [List.take_add_one, h, List.any_append, h0]; simpa using h1
theorem any_at {k : Int} {t : ByteArray} (Z : List (Int × ByteArray)) {j : Nat} (h : Z[j]? = some (k, t)) : isZ k t Z = true :=
 List.any_eq_true.2 ⟨(k, t), List.mem_of_getElem? h, by simp⟩
theorem BS.drewN {w W : World} {l : List (Nat × List Value)} (h : BS w l W) (n : Nat) : BS w l (W.drewN n) := ⟨⟨h.1.os, h.1.tape, h.1.output, h.1.size, h.1.block⟩, h.2⟩
theorem index_any (Z : List (Int × ByteArray)) (k : Int) (t : ByteArray) (bs cp : Nat) (w : World) (hz : Z.length ≤ 100) (hcp : cp ≤ 9223372036854775807) (hzc : Z.length ≤ cp) (hbs : bs < w.heap.size) (hc : Hid (∀ i v, (fl2 Z)[i]? = some v → w.cell? ⟨bs, i, none⟩ = some v)) :
  Calls Tryd.prog 76 #[vL (some ⟨bs, 0, none⟩) Z.length cp, .agg #[vi ki k, vS t]] w fun e w' => (∃ i : Int, e = zr (vi ki i) ∧ decide (0 ≤ i) = isZ k t Z) ∧ Below w.heap.size w w' := by
 go_enter Tryd.func76, Tryd.ntmps76
 go_wp2_with fail
 go_loopw [8] (fun i W => ∃ j : Nat, j ≤ Z.length ∧ i = vi ki (j : Int) ∧ Hid (BS w [(w.heap.size, [vi ki k, vS t])] W) ∧ Hid (isZ k t (Z.take j) = false)) (fun i _ => Z.length - (intOf i).toNat)
 case atStart => exact ⟨0, Nat.zero_le _, rfl, (BS.start w).new [vi ki k, vS t] _ rfl, rfl⟩
 case round =>
  obtain ⟨j, hj, rfl, HW, HN⟩ := hrel
  by_cases hlt : j < Z.length
  ·have hlt' : (j : Int) < (Z.length : Int) := by omega
   obtain ⟨⟨x1, x2⟩, hx⟩ : ∃ x, Z[j]? = some x := ⟨Z[j]'hlt, List.getElem?_eq_getElem hlt⟩
   obtain ⟨q1, q2⟩ := fl2_at Z j _ hx
   have d1 := (HW.out.1.cell (p := ⟨bs, j * 2, none⟩) hbs).trans (hc.out _ _ q1)
   have d2 := (HW.out.1.cell (p := ⟨bs, j * 2 + 1, none⟩) hbs).trans (hc.out _ _ q2)
   have b1 := HW.out.first.c 0 rfl
   have b2 := HW.out.first.c 1 rfl
   have HX := hZz hx
   have k0 : (0 : Int) ≤ (j : Int) := by omega
   have k1 : (j : Int) ≤ 100 := by omega
   clear q1 q2 hx
   rcases Classical.em (k = x1) with rfl | hk
   ·rcases Classical.em (t = x2) with rfl | ht
    ·go_wp2_with fail
     go_quiet (fail)
     go_wp2
     go_ret
     exact ⟨⟨_, rfl, by rw [any_at Z HX.out]; simp⟩, (HW.out.drewN _).1⟩
    ·have ht2 : (t.toList == x2.toList) = false := by rw [toList_eq]; exact decide_eq_false ht
     go_wp2_with fail
     go_quiet (fail)
     go_wp2
     exact ⟨⟨j + 1, by omega, by simp, HW.out.drewN _, any_take Z HX.out HN.out (fun q => ht q.2)⟩, by simp [intOf]; omega⟩
   ·have hk2 : (k == x1) = false := by simpa using hk
    go_wp2_with fail
    go_quiet (fail)
    go_wp2
    exact ⟨⟨j + 1, by omega, by simp, HW.out.drewN _, any_take Z HX.out HN.out (fun q => hk q.1)⟩, by simp [intOf]; omega⟩
  ·have hj' : ¬ (j : Int) < (Z.length : Int) := by omega
   obtain rfl : j = Z.length := by omega
   have HN' : Hid (isZ k t Z = false) := by have := HN.out; rwa [List.take_length] at this
   clear HN
   go_wp2
   go_ret
   exact ⟨⟨_, rfl, by rw [HN'.out]; simp⟩, HW.out.1⟩
theorem contains_any (Z : List (Int × ByteArray)) (k : Int) (t : ByteArray) (bs cp : Nat) (w : World) (hz : Z.length ≤ 100) (hcp : cp ≤ 9223372036854775807) (hzc : Z.length ≤ cp) (hbs : bs < w.heap.size) (hc : Hid (∀ i v, (fl2 Z)[i]? = some v → w.cell? ⟨bs, i, none⟩ = some v)) :
  Calls Tryd.prog 65 #[vL (some ⟨bs, 0, none⟩) Z.length cp, .agg #[vi ki k, vS t]] w fun e w' => e = zr (.bool (isZ k t Z)) ∧ Below w.heap.size w w' := by
 go_enter Tryd.func65, Tryd.ntmps65
 go_wp2_with fail
 refine (index_any Z k t bs cp _ hz hcp hzc (by simp; omega) (fun i v hv => (((Below.refl w.heap.size w).alloc (Nat.le_refl _) _).cell (p := ⟨bs, i, none⟩) hbs).trans (hc.out i v hv))).mono ?_
 rintro e W ⟨⟨i, rfl, hi⟩, hb⟩
 have HB : Hid (Below w.heap.size w W) := ((Below.refl w.heap.size w).alloc (Nat.le_refl _) _).trans (hb.mono (by simp))
 have HI : Hid _ := hi
 clear hb hi
 go_wp2
 go_ret
 exact ⟨by rw [← HI.out]; rfl, HB.out⟩
theorem is_any (g b cap : Nat) (T : List Tk) (p : Tk) (l : List Tk) (d : Nat) (Z : List (Int × ByteArray)) (bs cp : Nat) (w : World) (h : PS g b cap T w (p :: l) d) (hz : Z.length ≤ 100) (hcp : cp ≤ 9223372036854775807) (hzc : Z.length ≤ cp) (hbs : Bx w bs (fl2 Z)) :
  Calls Tryd.prog 52 #[.pointer (some ⟨g, 0, none⟩), vL (some ⟨bs, 0, none⟩) Z.length cp] w fun e w' => e = zr (.bool (isT p Z)) ∧ Below w.heap.size w w' := by
 obtain ⟨⟨pre, a0, e0, e, hb⟩, htr, hne, hle, hmost⟩ := h
 have HB := hZz hb
 have HT := hZz htr
 have c0 := hb.c 0 rfl
 have c1 := hb.c 1 rfl
 have z0 := hb.f 0 rfl
 have z1 := hb.f 1 rfl
 have hg := hb.1
 have hbl := htr.1
 obtain ⟨t0, t1, t2⟩ := htr.at e
 have HM := hZz hmost
 unfold maxLen at hmost
 have hlen : T.length = pre.length + l.length + 1 := by rw [e]; simp <;> omega
 clear hb htr
 have HS := hZz hbs
 have hbs' := hbs.1
 clear hbs
 go_enter Tryd.func52, Tryd.ntmps52
 go_wp2_with fail
 refine (contains_any Z p.1 p.2.1 bs cp _ hz hcp hzc hbs' (fun i v hv => (HS.out.2 i v hv).1)).mono ?_
 rintro e W ⟨rfl, hb⟩
 have HW := hZz hb
 clear hb
 rw [isZ_isT]
 go_wp2
 go_ret
 exact ⟨rfl, HW.out⟩
theorem take_yes (g b cap : Nat) (T : List Tk) (p : Tk) (l : List Tk) (d : Nat) (k : Int) (t : ByteArray) (w : World) (q : Tk) (h : PS g b cap T w (p :: q :: l) d) (hi : isT p [(k, t)] = true) :
  Calls Tryd.prog 28 #[.pointer (some ⟨g, 0, none⟩), .agg #[vi ki k, vS t]] w fun e w' => e = zr (.bool true) ∧ Kp g w w' ∧ PS g b cap T w' (q :: l) d := by
 have HP : Hid _ := h
 have hg := h.lt
 clear h
 go_enter Tryd.func28, Tryd.ntmps28
 go_wp2_with fail
 have B1 := bsm2 w [vi ki k, vS t] 79 [vi ki k, vS t] 79
 refine (is_any g b cap T p _ d [(k, t)] (w.heap.size + 1) 1 _ (HP.out.below B1.out.1) (by simp) (by omega) (by simp) B1.out.first).mono ?_
 rintro e W ⟨rfl, hb⟩
 have HW : Hid (Below w.heap.size w W) := B1.out.1.trans (hb.mono B1.out.1.size)
 have HQ : Hid _ := HP.out.below HW.out
 clear hb B1 HP
 rw [hi]
 go_wp2_with fail
 refine (next_any g b cap T p q l d _ HQ.out).mono ?_
 rintro e V ⟨rfl, hk, hp⟩
 have HK : Hid (Kp g w V) := (Kp.of HW.out).trans hk
 have HV : Hid _ := hp
 clear hk hp
 go_wp2
 go_ret
 exact ⟨rfl, HK.out, HV.out⟩
theorem take_end (g b cap : Nat) (T : List Tk) (p : Tk) (l : List Tk) (d : Nat) (k : Int) (t : ByteArray) (w : World) (h : PS g b cap T w [p] d) (hi : isT p [(k, t)] = true) :
  Calls Tryd.prog 28 #[.pointer (some ⟨g, 0, none⟩), .agg #[vi ki k, vS t]] w fun e w' => e = zr (.bool true) ∧ Kp g w w' := by
 have HP : Hid _ := h
 have hg := h.lt
 clear h
 go_enter Tryd.func28, Tryd.ntmps28
 go_wp2_with fail
 have B1 := bsm2 w [vi ki k, vS t] 79 [vi ki k, vS t] 79
 refine (is_any g b cap T p _ d [(k, t)] (w.heap.size + 1) 1 _ (HP.out.below B1.out.1) (by simp) (by omega) (by simp) B1.out.first).mono ?_
 rintro e W ⟨rfl, hb⟩
 have HW : Hid (Below w.heap.size w W) := B1.out.1.trans (hb.mono B1.out.1.size)
 have HQ : Hid _ := HP.out.below HW.out
 clear hb B1 HP
 rw [hi]
 go_wp2_with fail
 refine (next_end g b cap T p d _ HQ.out).mono ?_
 rintro e V ⟨rfl, hk⟩
 have HK : Hid (Kp g w V) := (Kp.of HW.out).trans hk
 clear hk
 go_wp2
 go_ret
 exact ⟨rfl, HK.out⟩
theorem take_no (g b cap : Nat) (T : List Tk) (p : Tk) (l : List Tk) (d : Nat) (k : Int) (t : ByteArray) (w : World) (h : PS g b cap T w (p :: l) d) (hi : isT p [(k, t)] = false) :
  Calls Tryd.prog 28 #[.pointer (some ⟨g, 0, none⟩), .agg #[vi ki k, vS t]] w fun e w' => e = zr (.bool false) ∧ Kp g w w' ∧ PF g w' d p.2.2 30 := by
 have HP : Hid _ := h
 have hg := h.lt
 clear h
 go_enter Tryd.func28, Tryd.ntmps28
 go_wp2_with fail
 have B1 := bsm2 w [vi ki k, vS t] 79 [vi ki k, vS t] 79
 refine (is_any g b cap T p _ d [(k, t)] (w.heap.size + 1) 1 _ (HP.out.below B1.out.1) (by simp) (by omega) (by simp) B1.out.first).mono ?_
 rintro e W ⟨rfl, hb⟩
 have HW : Hid (Below w.heap.size w W) := B1.out.1.trans (hb.mono B1.out.1.size)
 have HQ : Hid _ := HP.out.below HW.out
 clear hb B1 HP
 rw [hi]
 go_wp2_with fail
 refine (wrong_any g b cap T p l d _ HQ.out).mono ?_
 rintro e V ⟨rfl, hk, hp⟩
 have HK : Hid (Kp g w V) := (Kp.of HW.out).trans hk
 have HV : Hid _ := hp
 clear hk hp
 go_wp2
 go_ret
 exact ⟨rfl, HK.out, HV.out⟩
theorem isType_any (t : ByteArray) (w : World) :
  Calls Tryd.prog 100 #[vS t] w fun e w' => e = zr (.bool (typB t)) ∧ w' = w := by
 have e1 : (t.toList == [100, 97, 116, 101]) = decide (t = dateB) := by rw [← toList_eq t dateB, Lib.toList_data dateB]; rfl
 have e2 : (t.toList == [116, 105, 109, 101, 115, 116, 97, 109, 112]) = decide (t = stampB) := by rw [← toList_eq t stampB, Lib.toList_data stampB]; rfl
 have e3 : (t.toList == [116, 105, 109, 101, 115, 116, 97, 109, 112, 116, 122]) = decide (t = tzB) := by rw [← toList_eq t tzB, Lib.toList_data tzB]; rfl
 have e4 : (t.toList == [105, 110, 116, 101, 114, 118, 97, 108]) = decide (t = ivB) := by rw [← toList_eq t ivB, Lib.toList_data ivB]; rfl
 unfold typB
 generalize hb1 : decide (t = dateB) = b1 at *
 generalize hb2 : decide (t = stampB) = b2 at *
 generalize hb3 : decide (t = tzB) = b3 at *
 generalize hb4 : decide (t = ivB) = b4 at *
 clear hb1 hb2 hb3 hb4
 cases b1 <;> cases b2 <;> cases b3 <;> cases b4
 all_goals
  go_enter Tryd.func100, Tryd.ntmps100
  go_wp2
  go_ret
  exact ⟨rfl, rfl⟩
theorem isFree_any (k : Int) (t : ByteArray) (a : Int) (w : World) :
  Calls Tryd.prog 96 #[.agg #[vi ki k, vS t]] w fun e w' => e = zr (.bool (free (k, t, a))) ∧ Below w.heap.size w w' := by
 have e0 : (t.toList == [116, 114, 117, 101]) = decide (t = trueB) := by rw [← toList_eq t trueB, Lib.toList_data trueB]; rfl
 have e1 : (t.toList == [102, 97, 108, 115, 101]) = decide (t = falseB) := by rw [← toList_eq t falseB, Lib.toList_data falseB]; rfl
 have e2 : (t.toList == [110, 111, 116]) = decide (t = notB) := by rw [← toList_eq t notB, Lib.toList_data notB]; rfl
 have e3 : (t.toList == [97, 110, 100]) = decide (t = andB) := by rw [← toList_eq t andB, Lib.toList_data andB]; rfl
 have e4 : (t.toList == [111, 114]) = decide (t = orB) := by rw [← toList_eq t orB, Lib.toList_data orB]; rfl
 have e5 : (t.toList == [97, 116]) = decide (t = atB) := by rw [← toList_eq t atB, Lib.toList_data atB]; rfl
 have e6 : (t.toList == [116, 105, 109, 101]) = decide (t = timeB) := by rw [← toList_eq t timeB, Lib.toList_data timeB]; rfl
 have e7 : (t.toList == [122, 111, 110, 101]) = decide (t = zoneB) := by rw [← toList_eq t zoneB, Lib.toList_data zoneB]; rfl
 have HB : Hid (Below w.heap.size w (w.alloc (.cells #[vi ki k, vS t] 79))) := (Below.refl _ _).alloc (Nat.le_refl _) _
 have hk : (k == 4) = decide (k = 4) := rfl
 unfold free rsvd
 dsimp only
 generalize hbk : decide (k = 4) = bk at *
 clear hbk
 generalize hb0 : decide (t = trueB) = b0 at *
 clear hb0
 generalize hb1 : decide (t = falseB) = b1 at *
 clear hb1
 generalize hb2 : decide (t = notB) = b2 at *
 clear hb2
 generalize hb3 : decide (t = andB) = b3 at *
 clear hb3
 generalize hb4 : decide (t = orB) = b4 at *
 clear hb4
 generalize hb5 : decide (t = atB) = b5 at *
 clear hb5
 generalize hb6 : decide (t = timeB) = b6 at *
 clear hb6
 generalize hb7 : decide (t = zoneB) = b7 at *
 clear hb7
 cases bk
 all_goals
  cases b0
  rotate_left
  ·go_enter Tryd.func96, Tryd.ntmps96
   go_wp2
   go_ret
   exact ⟨rfl, HB.out⟩
  cases b1
  rotate_left
  ·go_enter Tryd.func96, Tryd.ntmps96
   go_wp2
   go_ret
   exact ⟨rfl, HB.out⟩
  cases b2
  rotate_left
  ·go_enter Tryd.func96, Tryd.ntmps96
   go_wp2
   go_ret
   exact ⟨rfl, HB.out⟩
  cases b3
  rotate_left
  ·go_enter Tryd.func96, Tryd.ntmps96
   go_wp2
   go_ret
   exact ⟨rfl, HB.out⟩
  cases b4
  rotate_left
  ·go_enter Tryd.func96, Tryd.ntmps96
   go_wp2
   go_ret
   exact ⟨rfl, HB.out⟩
  cases b5
  rotate_left
  ·go_enter Tryd.func96, Tryd.ntmps96
   go_wp2
   go_ret
   exact ⟨rfl, HB.out⟩
  cases b6
  rotate_left
  ·go_enter Tryd.func96, Tryd.ntmps96
   go_wp2
   go_ret
   exact ⟨rfl, HB.out⟩
  cases b7
  rotate_left
  ·go_enter Tryd.func96, Tryd.ntmps96
   go_wp2
   go_ret
   exact ⟨rfl, HB.out⟩
  go_enter Tryd.func96, Tryd.ntmps96
  go_wp2
  go_ret
  exact ⟨rfl, HB.out⟩
theorem leaf_any (g b cap : Nat) (T : List Tk) (p q : Tk) (l : List Tk) (d : Nat) (k : Int) (w : World) (h : PS g b cap T w (p :: q :: l) d) :
  Calls Tryd.prog 97 #[.pointer (some ⟨g, 0, none⟩), vi ki k] w fun e w' => e = zr (.tuple #[.agg #[vi ki k, vS p.2.1, vL none 0 0, vi ki p.2.2], .bool true]) ∧ Kp g w w' ∧ PS g b cap T w' (q :: l) d := by
 have HP : Hid _ := h
 have hg := h.lt
 have hbl := h.tr.1
 clear h
 go_enter Tryd.func97, Tryd.ntmps97
 go_wp2_with fail
 have B1 := bsm1 w [vi ki 0, vS ⟨#[]⟩, vL none 0 0, vi ki 0] 24
 refine (next_any g b cap T p q l d _ (HP.out.below B1.out.1)).mono ?_
 rintro e W ⟨rfl, hk, hp⟩
 have HK := kpt B1 hk
 have HR : Hid (Bx W w.heap.size _) := hk.bx B1.out.first (by omega)
 have HQ : Hid _ := hp
 clear hk hp HP B1
 have hrw := HR.out.1
 obtain ⟨y0', y1', y2', y3', HFK, HFO, HFS, r0, r1, r2, r3, s0, s1, s2, s3, hrw'⟩ := fin8 [.cells #[vi ki p.1, vS p.2.1, vi ki p.2.2] 81] (vi ki k) (vS p.2.1) (vL none 0 0) (vi ki p.2.2) HK.out (by omega) (HR.out)
 simp only [List.foldl, World.setCells, Nat.zero_add, Nat.reduceAdd] at y0' y1' y2' y3'
 go_wp2
 refine bodyPost_ret (v := .tuple #[.agg #[vi ki k, vS p.2.1, vL none 0 0, vi ki p.2.2], .bool true]) (by simp [results, Tryd.results97, go_sem, y0', y1', y2', y3']) rfl ⟨rfl, HFK.out, HQ.out.off HFO.out HFS.out (by omega) (by omega)⟩
end Go.Proofs.YtaoocecipacnhaaDoor
