import Derived.Test.YtaoocecipacnhaaDoorWz
import Derived.Shelf.Strings.Builder1
import Derived.Shelf.Strings.Builder2
import Derived.Shelf.Small.Utf8
import Derived.Shelf.Strings.BuilderF
import Derived.Shelf.Strings.BuilderK
import Derived.Shelf.Strings.Search1
import Derived.Shelf.Strings.Search2
import Derived.Shelf.Strings.Search3
import Derived.Shelf.Strings.Count
import Derived.Shelf.LaysM
import Derived.Shelf.Strings.Shaped
import Derived.Shelf.Strings.Split
import Derived.Shelf.Strings.Replace
import Derived.Shelf.Unicode.DecodeSlow
import Derived.Shelf.Unicode.DecodeAny
import Derived.Test.YtaoocecipacnhaaDoorProg
import Derived.Test.YtaoocecipacnhaaDoorW1
import Derived.BigQuiet
import Derived.Deep.QuietTactic
open Go.Value renaming int → vi
open Go.IntKind renaming i64 → ki
open List renaming setIfInBounds_toArray → zb, set_cons_zero → zc, set_cons_succ → zd
open Go.Act renaming put → za
open Go.Ending renaming returned → zr
set_option maxRecDepth 100000
set_option maxHeartbeats 16000000
set_option linter.unusedVariables false
namespace Go.Proofs
open Go.Shelf
def Tryd.lays169_ren : Go.Shelf.Ren := ⟨fun | 169 => 21 | n => n, fun | 70 => 61 | 9 => 9 | 0 => 0 | 72 => 64 | 37 => 62 | 127 => 100 | 3 => 3 | 5 => 5 | n => n, fun | n => n⟩
theorem Tryd.lays169 : Go.Proofs.Lays.n169 Tryd.prog Tryd.lays169_ren := {
 mixed := by kernel_rfl
 f169 := Tryd.func21.trans (congrArg some (by kernel_rfl))
 t0 := Tryd.underlying0
 a0 := Tryd.isAgg0
 z0 := Tryd.sizeOf0
 v0 := Tryd.zeroValue0
 t3 := Tryd.underlying3
 a3 := Tryd.isAgg3
 z3 := Tryd.sizeOf3
 v3 := Tryd.zeroValue3
 t9 := Tryd.underlying9
 a9 := Tryd.isAgg9
 z9 := Tryd.sizeOf9
 v9 := Tryd.zeroValue9
 t37 := Tryd.underlying62
 a37 := Tryd.isAgg62
 z37 := Tryd.sizeOf62
 v37 := Tryd.zeroValue62
 t70 := Tryd.underlying61
 a70 := Tryd.isAgg61
 z70 := Tryd.sizeOf61
 v70 := Tryd.zeroValue61
 t72 := Tryd.underlying64
 a72 := Tryd.isAgg64
 z72 := Tryd.sizeOf64
 v72 := Tryd.zeroValue64
 t127 := Tryd.underlying100
 a127 := Tryd.isAgg100
 z127 := Tryd.sizeOf100
 v127 := Tryd.zeroValue100 }
theorem Tryd.Builder_Extra_169 : Builder.Extra Tryd.prog Tryd.lays169_ren := {
 sizeBuilder := by kernel_rfl
 liesBuilder := by kernel_rfl
 t5 := Tryd.underlying5
 a5 := Tryd.isAgg5
 z5 := Tryd.sizeOf5
 v5 := Tryd.zeroValue5
 infoByte := by kernel_rfl
 cellsByte := by kernel_rfl
 sizeByte := by kernel_rfl
 neB5 := by decide }
def Tryd.lays118_ren : Go.Shelf.Ren := ⟨fun | 118 => 44 | n => n, fun | 21 => 21 | 3 => 3 | 4 => 4 | n => n, fun | n => n⟩
theorem Tryd.lays118 : Go.Proofs.Lays.n118 Tryd.prog Tryd.lays118_ren := {
 mixed := by kernel_rfl
 f118 := Tryd.func44.trans (congrArg some (by kernel_rfl))
 t3 := Tryd.underlying3
 a3 := Tryd.isAgg3
 z3 := Tryd.sizeOf3
 v3 := Tryd.zeroValue3
 t4 := Tryd.underlying4
 a4 := Tryd.isAgg4
 z4 := Tryd.sizeOf4
 v4 := Tryd.zeroValue4
 t21 := Tryd.underlying21
 a21 := Tryd.isAgg21
 z21 := Tryd.sizeOf21
 v21 := Tryd.zeroValue21 }
theorem Tryd.utf8_RuneLen (r : Int) (w : World) :
  Calls Tryd.prog 44 #[.int .i32 r] w fun e w' => e = zr (vi ki (Lib.runeLen r)) ∧ w' = w := Any.utf8_RuneLen Tryd.lays118 r w
open Go.RowKit in
theorem Tryd.Builder_String_any_k (B b : Nat) (l : List UInt8) (w : World) (h : Lib.IsBuilderF 64 5 B b (Lib.byteCells l) w) (hBw : B ≤ w.heap.size) :
  Calls Tryd.prog 21 #[.pointer (some ⟨b, 0, none⟩)] w fun e w' => e = zr (.string ⟨l.toArray⟩) ∧ (Lib.IsBuilderF 64 5 B b (Lib.byteCells l) w' ∧ Below B w w' ∧ Lib.OthersKept 5 (some b) w w') := Any.Builder_String_any_k Tryd.lays169 Tryd.Builder_Extra_169 B b l w h hBw
def Tryd.lays155_ren : Go.Shelf.Ren := ⟨fun | 155 => 41 | 154 => 61 | 138 => 70 | 165 => 71 | 143 => 72 | 166 => 40 | 197 => 62 | 169 => 21 | 195 => 78 | 218 => 79 | 240 => 60 | 241 => 80 | 219 => 81 | 260 => 73 | 276 => 69 | 277 => 84 | 217 => 85 | 225 => 86 | 224 => 87 | 267 => 88 | 266 => 90 | 314 => 91 | n => n, fun | 9 => 9 | 3 => 3 | 4 => 4 | 72 => 64 | 0 => 0 | 76 => 96 | 105 => 112 | 21 => 21 | 5 => 5 | 70 => 61 | 20 => 20 | 37 => 62 | 75 => 95 | 127 => 100 | 164 => 121 | 46 => 131 | 119 => 130 | 139 => 134 | 138 => 133 | 146 => 139 | 51 => 138 | 80 => 66 | n => n, fun | 1 => 2 | 3 => 0 | 4 => 1 | n => n⟩
theorem Tryd.lays155 : Go.Proofs.Lays.n155 Tryd.prog Tryd.lays155_ren := {
 mixed := by kernel_rfl
 f138 := Tryd.func70.trans (congrArg some (by kernel_rfl))
 f143 := Tryd.func72.trans (congrArg some (by kernel_rfl))
 f154 := Tryd.func61.trans (congrArg some (by kernel_rfl))
 f155 := Tryd.func41.trans (congrArg some (by kernel_rfl))
 f165 := Tryd.func71.trans (congrArg some (by kernel_rfl))
 f166 := Tryd.func40.trans (congrArg some (by kernel_rfl))
 f169 := Tryd.func21.trans (congrArg some (by kernel_rfl))
 f195 := Tryd.func78.trans (congrArg some (by kernel_rfl))
 f197 := Tryd.func62.trans (congrArg some (by kernel_rfl))
 f217 := Tryd.func85.trans (congrArg some (by kernel_rfl))
 f218 := Tryd.func79.trans (congrArg some (by kernel_rfl))
 f219 := Tryd.func81.trans (congrArg some (by kernel_rfl))
 f224 := Tryd.func87.trans (congrArg some (by kernel_rfl))
 f225 := Tryd.func86.trans (congrArg some (by kernel_rfl))
 f240 := Tryd.func60.trans (congrArg some (by kernel_rfl))
 f241 := Tryd.func80.trans (congrArg some (by kernel_rfl))
 f260 := Tryd.func73.trans (congrArg some (by kernel_rfl))
 f266 := Tryd.func90.trans (congrArg some (by kernel_rfl))
 f267 := Tryd.func88.trans (congrArg some (by kernel_rfl))
 f276 := Tryd.func69.trans (congrArg some (by kernel_rfl))
 f277 := Tryd.func84.trans (congrArg some (by kernel_rfl))
 f314 := Tryd.func91.trans (congrArg some (by kernel_rfl))
 t0 := Tryd.underlying0
 a0 := Tryd.isAgg0
 z0 := Tryd.sizeOf0
 v0 := Tryd.zeroValue0
 t3 := Tryd.underlying3
 a3 := Tryd.isAgg3
 z3 := Tryd.sizeOf3
 v3 := Tryd.zeroValue3
 t4 := Tryd.underlying4
 a4 := Tryd.isAgg4
 z4 := Tryd.sizeOf4
 v4 := Tryd.zeroValue4
 t5 := Tryd.underlying5
 a5 := Tryd.isAgg5
 z5 := Tryd.sizeOf5
 v5 := Tryd.zeroValue5
 t9 := Tryd.underlying9
 a9 := Tryd.isAgg9
 z9 := Tryd.sizeOf9
 v9 := Tryd.zeroValue9
 t20 := Tryd.underlying20
 a20 := Tryd.isAgg20
 z20 := Tryd.sizeOf20
 v20 := Tryd.zeroValue20
 t21 := Tryd.underlying21
 a21 := Tryd.isAgg21
 z21 := Tryd.sizeOf21
 v21 := Tryd.zeroValue21
 t37 := Tryd.underlying62
 a37 := Tryd.isAgg62
 z37 := Tryd.sizeOf62
 v37 := Tryd.zeroValue62
 t46 := Tryd.underlying131
 a46 := Tryd.isAgg131
 z46 := Tryd.sizeOf131
 v46 := Tryd.zeroValue131
 t51 := Tryd.underlying138
 a51 := Tryd.isAgg138
 z51 := Tryd.sizeOf138
 v51 := Tryd.zeroValue138
 t70 := Tryd.underlying61
 a70 := Tryd.isAgg61
 z70 := Tryd.sizeOf61
 v70 := Tryd.zeroValue61
 t72 := Tryd.underlying64
 a72 := Tryd.isAgg64
 z72 := Tryd.sizeOf64
 v72 := Tryd.zeroValue64
 t75 := Tryd.underlying95
 a75 := Tryd.isAgg95
 z75 := Tryd.sizeOf95
 v75 := Tryd.zeroValue95
 t76 := Tryd.underlying96
 a76 := Tryd.isAgg96
 z76 := Tryd.sizeOf96
 v76 := Tryd.zeroValue96
 t105 := Tryd.underlying112
 a105 := Tryd.isAgg112
 z105 := Tryd.sizeOf112
 v105 := Tryd.zeroValue112
 t119 := Tryd.underlying130
 a119 := Tryd.isAgg130
 z119 := Tryd.sizeOf130
 t127 := Tryd.underlying100
 a127 := Tryd.isAgg100
 z127 := Tryd.sizeOf100
 v127 := Tryd.zeroValue100
 t138 := Tryd.underlying133
 a138 := Tryd.isAgg133
 z138 := Tryd.sizeOf133
 v138 := Tryd.zeroValue133
 t139 := Tryd.underlying134
 a139 := Tryd.isAgg134
 z139 := Tryd.sizeOf134
 v139 := Tryd.zeroValue134
 t146 := Tryd.underlying139
 a146 := Tryd.isAgg139
 z146 := Tryd.sizeOf139
 v146 := Tryd.zeroValue139
 t164 := Tryd.underlying121
 a164 := Tryd.isAgg121
 z164 := Tryd.sizeOf121
 v164 := Tryd.zeroValue121
 g1 := by kernel_rfl
 g3 := by kernel_rfl
 g4 := by kernel_rfl }
theorem Tryd.Builder_Extra_155 : Builder.Extra Tryd.prog Tryd.lays155_ren := {
 sizeBuilder := by kernel_rfl
 liesBuilder := by kernel_rfl
 t5 := Tryd.underlying5
 a5 := Tryd.isAgg5
 z5 := Tryd.sizeOf5
 v5 := Tryd.zeroValue5
 infoByte := by kernel_rfl
 cellsByte := by kernel_rfl
 sizeByte := by kernel_rfl
 neB5 := by decide }
open Go.RowKit Go.Lib in
theorem Tryd.strings_ReplaceAll (s old new : ByteArray) (m : Int) (w : World) (hs : s.size < 4294967281) (hm : w.cell? ⟨2, 0, none⟩ = some (vi ki m)) (h1 : 1 ≤ old.size) (hlen : s.size + Lib.countB s old * new.size ≤ 140737488355328) :
  Calls Tryd.prog 41 #[.string s, .string old, .string new] w fun e w' =>
   e = zr (.string ⟨(Lib.replaceAll s.data.toList old.data.toList new.data.toList).toArray⟩) ∧ Below w.heap.size w w' := Any.strings_ReplaceAll Tryd.lays155 Tryd.Builder_Extra_155 s old new m w hs hm h1 hlen
def Tryd.lays197_ren : Go.Shelf.Ren := ⟨fun | 197 => 62 | 260 => 73 | n => n, fun | 9 => 9 | 21 => 21 | 3 => 3 | 4 => 4 | 5 => 5 | 105 => 112 | 119 => 130 | 0 => 0 | 46 => 131 | 139 => 134 | 138 => 133 | n => n, fun | 3 => 0 | 4 => 1 | n => n⟩
theorem Tryd.lays197 : Go.Proofs.Lays.n197 Tryd.prog Tryd.lays197_ren := {
 mixed := by kernel_rfl
 f197 := Tryd.func62.trans (congrArg some (by kernel_rfl))
 f260 := Tryd.func73.trans (congrArg some (by kernel_rfl))
 t0 := Tryd.underlying0
 a0 := Tryd.isAgg0
 z0 := Tryd.sizeOf0
 v0 := Tryd.zeroValue0
 t3 := Tryd.underlying3
 a3 := Tryd.isAgg3
 z3 := Tryd.sizeOf3
 v3 := Tryd.zeroValue3
 t4 := Tryd.underlying4
 a4 := Tryd.isAgg4
 z4 := Tryd.sizeOf4
 v4 := Tryd.zeroValue4
 t5 := Tryd.underlying5
 a5 := Tryd.isAgg5
 z5 := Tryd.sizeOf5
 v5 := Tryd.zeroValue5
 t9 := Tryd.underlying9
 a9 := Tryd.isAgg9
 z9 := Tryd.sizeOf9
 v9 := Tryd.zeroValue9
 t21 := Tryd.underlying21
 a21 := Tryd.isAgg21
 z21 := Tryd.sizeOf21
 v21 := Tryd.zeroValue21
 t46 := Tryd.underlying131
 a46 := Tryd.isAgg131
 z46 := Tryd.sizeOf131
 v46 := Tryd.zeroValue131
 t105 := Tryd.underlying112
 a105 := Tryd.isAgg112
 z105 := Tryd.sizeOf112
 v105 := Tryd.zeroValue112
 t119 := Tryd.underlying130
 a119 := Tryd.isAgg130
 z119 := Tryd.sizeOf130
 t138 := Tryd.underlying133
 a138 := Tryd.isAgg133
 z138 := Tryd.sizeOf133
 v138 := Tryd.zeroValue133
 t139 := Tryd.underlying134
 a139 := Tryd.isAgg134
 z139 := Tryd.sizeOf134
 v139 := Tryd.zeroValue134
 g3 := by kernel_rfl
 g4 := by kernel_rfl }
open Go.RowKit Go.Lib in
theorem Tryd.utf8_DecodeRuneInString (s : ByteArray) (w : World) (hT : Lib.Utf8Tabs 0 1 w) :
  Calls Tryd.prog 62 #[.string s] w fun e w' => e = zr (.tuple #[.int .i32 (Lib.decodeGo s).1, vi ki (Lib.decodeGo s).2]) ∧ Below w.heap.size w w' := Any.utf8_DecodeRuneInString Tryd.lays197 s w hT
end Go.Proofs
namespace Go.Proofs.YtaoocecipacnhaaDoor
open Go.RowKit
def Txt (w : World) (g : Nat) (L : List ByteArray) : Prop := g < w.heap.size ∧ ∀ j t, L[j]? = some t → w.cell? ⟨g, j, none⟩ = some (.string t)
theorem Txt.below {w w1 : World} {g : Nat} {L : List ByteArray} (h : Txt w g L) (hb : Below w.heap.size w w1) : Txt w1 g L :=
 ⟨Nat.lt_of_lt_of_le h.1 hb.size, fun j t hj => (hb.cell (p := ⟨g, j, none⟩) h.1).trans (h.2 j t hj)⟩
theorem Txt.new (w : World) (L : List ByteArray) (t : TypeId) : Txt (w.alloc (.cells (L.map Value.string).toArray t)) w.heap.size L := by
 refine ⟨by simp, fun j x hx => ?_⟩
 rw [World.cell?_alloc_at _ _ _ _ rfl]
 simp [hx]
abbrev Tabs (w : World) : Prop := Lib.Utf8Tabs 0 1 w
theorem Tabs_below {w w' : World} (h : Tabs w) (hb : Below w.heap.size w w') : Tabs w' := Utf8Tabs_below h hb
theorem go_tail (s : ByteArray) (pos : Nat) (h : pos < s.size) : Lib.decodeGo (s.extract pos s.size) = Utf8.decode s pos := by
 unfold Lib.decodeGo
 have hz : (s.extract pos s.size).size = s.size - pos := by rw [ByteArray.size_extract]; omega
 rw [if_neg (by omega)]
 have bt_tail : ∀ i, bt (s.extract pos s.size) i = bt s (pos + i) := by
  intro i
  by_cases hi : pos + i < s.size
  ·unfold bt
   rw [get_lt _ i (by omega), get_lt s (pos + i) hi, ByteArray.getElem_extract]
  ·rw [bt_beyond s _ hi, bt_beyond _ i (by omega)]
 have e1 := Lib.decode_at (s.extract pos s.size) 0
 have e2 := Lib.decode_at s pos
 change Utf8.decode (s.extract pos s.size) 0 = Lib.decodeN ((s.extract pos s.size).size - 0) (bt (s.extract pos s.size) 0) (bt (s.extract pos s.size) 1) (bt (s.extract pos s.size) 2) (bt (s.extract pos s.size) 3) at e1
 change Utf8.decode s pos = Lib.decodeN (s.size - pos) (bt s (pos + 0)) (bt s (pos + 1)) (bt s (pos + 2)) (bt s (pos + 3)) at e2
 rw [e1, e2, bt_tail, bt_tail, bt_tail, bt_tail, hz, Nat.sub_zero]
theorem kw_blank {R : Int} {wd : Nat} (h : R = 32 ∨ R = 9 ∨ R = 10 ∨ R = 13) : kindW R wd = 0 := by unfold kindW; rw [if_pos h]
theorem kw_wrong {R : Int} {wd : Nat} (h : ¬ (R = 32 ∨ R = 9 ∨ R = 10 ∨ R = 13)) (h1 : R < 32 ∨ R = 127) : kindW R wd = -1 := by unfold kindW; rw [if_neg h, if_pos h1]
theorem kw_digit {R : Int} {wd : Nat} (h : 48 ≤ R ∧ R ≤ 57) : kindW R wd = 1 := by unfold kindW; rw [if_neg (by omega), if_neg (by omega), if_pos h]
theorem kw_err {wd : Nat} : kindW 65533 wd = if wd = 1 then -1 else 2 := by unfold kindW; rw [if_neg (by omega), if_neg (by omega), if_neg (by omega), if_pos rfl]
theorem kw_letter {R : Int} {wd : Nat} (h : R ≠ 65533) (h1 : 127 < R ∨ R = 95 ∨ (97 ≤ R ∧ R ≤ 122) ∨ (65 ≤ R ∧ R ≤ 90)) : kindW R wd = 2 := by unfold kindW; rw [if_neg (by omega), if_neg (by omega), if_neg (by omega), if_neg h, if_pos h1]
theorem kw_sign {R : Int} {wd : Nat} (h : ¬ (R = 32 ∨ R = 9 ∨ R = 10 ∨ R = 13)) (h1 : ¬ (R < 32 ∨ R = 127)) (h2 : ¬ (48 ≤ R ∧ R ≤ 57)) (h3 : R ≠ 65533) (h4 : ¬ (127 < R ∨ R = 95 ∨ (97 ≤ R ∧ R ≤ 122) ∨ (65 ≤ R ∧ R ≤ 90))) : kindW R wd = 3 := by unfold kindW; rw [if_neg h, if_neg h1, if_neg h2, if_neg h3, if_neg h4]
theorem kindAt_rune (s : ByteArray) (pos : Nat) (R : Int) (wd : Nat) (hs : s.size ≤ maxLen) (hp : pos ≤ s.size) (r0 : 0 ≤ R) (r1 : R ≤ 2147483647) (h3 : R ≠ 65533) (w : World) :
  Calls Tryd.prog 43 #[.string s, vi ki (pos : Int), .int .i32 R] w fun e w' => e = zr (vi ki (kindW R wd)) ∧ Below w.heap.size w w' := by
 unfold maxLen at hs
 by_cases hb : R = 32 ∨ R = 9 ∨ R = 10 ∨ R = 13
 ·rw [kw_blank hb]
  rcases hb with rfl | rfl | rfl | rfl
  all_goals
   go_enter Tryd.func43, Tryd.ntmps43
   go_wp2_with fail
   go_ret
   exact ⟨rfl, Below.refl _ _⟩
 ·have b1 : (R == 32) = false := by simp; omega
  have b2 : (R == 9) = false := by simp; omega
  have b3 : (R == 10) = false := by simp; omega
  have b4 : (R == 13) = false := by simp; omega
  have b5 : (R == 65533) = false := by simp; omega
  by_cases hw : R < 32 ∨ R = 127
  ·rw [kw_wrong hb hw]
   rcases hw with h | rfl
   all_goals
    go_enter Tryd.func43, Tryd.ntmps43
    go_wp2_with fail
    go_ret
    exact ⟨rfl, Below.refl _ _⟩
  ·have b6 : ¬ R < 32 := by omega
   have b7 : (R == 127) = false := by simp; omega
   by_cases hd : 48 ≤ R ∧ R ≤ 57
   ·rw [kw_digit hd]
    obtain ⟨d1, d2⟩ := hd
    go_enter Tryd.func43, Tryd.ntmps43
    go_wp2_with fail
    go_ret
    exact ⟨rfl, Below.refl _ _⟩
   ·by_cases hl : 127 < R ∨ R = 95 ∨ (97 ≤ R ∧ R ≤ 122) ∨ (65 ≤ R ∧ R ≤ 90)
    ·rw [kw_letter h3 hl]
     have n57 : ¬ R ≤ 57 := by omega
     have n48 : 48 ≤ R := by omega
     clear hb hw hd
     by_cases c1 : 127 < R
     ·go_enter Tryd.func43, Tryd.ntmps43
      go_wp2_with fail
      go_ret; exact ⟨rfl, Below.refl _ _⟩
     ·by_cases c2 : R = 95
      ·subst c2
       go_enter Tryd.func43, Tryd.ntmps43
       go_wp2_with fail
       go_ret; exact ⟨rfl, Below.refl _ _⟩
      ·have c2' : (R == 95) = false := by simp; omega
       by_cases c3 : 97 ≤ R
       ·have c4 : R ≤ 122 := by omega
        go_enter Tryd.func43, Tryd.ntmps43
        go_wp2_with fail
        go_ret; exact ⟨rfl, Below.refl _ _⟩
       ·have c4 : 65 ≤ R := by omega
        have c5 : R ≤ 90 := by omega
        go_enter Tryd.func43, Tryd.ntmps43
        go_wp2_with fail
        go_ret; exact ⟨rfl, Below.refl _ _⟩
    ·rw [kw_sign hb hw hd h3 hl]
     clear hb hw
     go_enter Tryd.func43, Tryd.ntmps43
     go_wp2_with fail
     all_goals first
      | (exfalso; omega)
      | (go_ret; exact ⟨rfl, Below.refl _ _⟩)
theorem kindAt_err (s : ByteArray) (pos wd : Nat) (hs : s.size ≤ maxLen) (hp : pos < s.size) (hd : Utf8.decode s pos = (65533, wd)) (hw : wd ≤ 4) (w : World) (hT : Tabs w) :
  Calls Tryd.prog 43 #[.string s, vi ki (pos : Int), .int .i32 65533] w fun e w' => e = zr (vi ki (kindW 65533 wd)) ∧ Below w.heap.size w w' := by
 unfold maxLen at hs
 have HC : Hid (Calls Tryd.prog 62 #[.string (s.extract pos s.size)] w fun e w' => e = zr (.tuple #[.int .i32 65533, vi ki (wd : Int)]) ∧ Below w.heap.size w w') := by
  have := Tryd.utf8_DecodeRuneInString (s.extract pos s.size) w hT
  rw [go_tail s pos hp, hd] at this
  exact this
 rw [kw_err]
 clear hd hT
 have hpi : (pos : Int) ≤ (s.size : Int) := by omega
 by_cases h1 : wd = 1
 ·subst h1
  go_enter Tryd.func43, Tryd.ntmps43
  go_wp2_with fail
  refine HC.out.mono ?_
  rintro e w1 ⟨rfl, B1⟩
  go_wp2_with fail
  go_ret
  exact ⟨rfl, B1⟩
 ·rw [if_neg h1]
  have h1' : ((wd : Int) == 1) = false := by simp; omega
  go_enter Tryd.func43, Tryd.ntmps43
  go_wp2_with fail
  refine HC.out.mono ?_
  rintro e w1 ⟨rfl, B1⟩
  go_wp2_with fail
  go_ret
  exact ⟨rfl, B1⟩
theorem kindAt_any (s : ByteArray) (pos : Nat) (hs : s.size ≤ maxLen) (hp : pos < s.size) (w : World) (hT : Tabs w) :
  Calls Tryd.prog 43 #[.string s, vi ki (pos : Int), .int .i32 ((Utf8.decode s pos).1 : Int)] w fun e w' => e = zr (vi ki (kindP s pos)) ∧ Below w.heap.size w w' := by
 unfold kindP
 by_cases h : (Utf8.decode s pos).1 = 65533
 ·have hw : (Utf8.decode s pos).2 ≤ 4 := by
   rcases dec_shape s pos hp with ⟨_, e⟩ | ⟨_, e⟩ | ⟨_, _, e, _⟩
   ·rw [e]; simp
   ·rw [e]; simp
   ·exact e
  have := kindAt_err s pos (Utf8.decode s pos).2 hs hp (by rw [← h]) hw w hT
  rw [h]
  exact this
 ·have := decode_le s pos
  exact kindAt_rune s pos _ _ hs (by omega) (by omega) (by omega) (by omega) w
theorem infoPart : (Tryd.prog.info? 73).map (fun i => (i.zero, i.size, i.bytes)) = some (some (.agg #[vi ki 0, .string ByteArray.empty, vi ki 0]), 3, 32) := by kernel_rfl
def flatP (s : ByteArray) : List Prt → List Value
  | [] => []
  | p :: l => vi ki p.1 :: .string (s.extract p.2.1 p.2.2) :: vi ki (p.2.1 : Int) :: flatP s l
theorem flatP_length (s : ByteArray) : ∀ l : List Prt, (flatP s l).length = l.length * 3
  | [] => rfl
  | r :: l => by simp [flatP, flatP_length s l]; omega
theorem flatP_append (s : ByteArray) : ∀ (l k : List Prt), flatP s (l ++ k) = flatP s l ++ flatP s k
  | [], k => rfl
  | r :: l, k => by simp [flatP, flatP_append s l k]
theorem flatP_set (s : ByteArray) (l : List Prt) (k : Int) (t : Value) (x y : Nat) : (flatP s l ++ [vi ki k, t, vi ki (x : Int)]).set (l.length * 3 + 1) (.string (s.extract x y)) = flatP s (l ++ [(k, x, y)]) := by
  rw [flatP_append, List.set_append_right _ _ (by rw [flatP_length]; omega), flatP_length, show l.length * 3 + 1 - l.length * 3 = 1 by omega]
  rfl
theorem ownsRow_keep {w w1 : World} {base : Nat} {e : TypeId} {size : Nat} {v : Value} {n : Nat} {xs : List Value} (h : w.ownsRow base e size v n xs) (hk : ∀ k, base ≤ k → k < w.heap.size → w1.heap[k]? = w.heap[k]?) : w1.ownsRow base e size v n xs := by
  obtain ⟨h1, h2⟩ := h
  refine ⟨h1, ?_⟩
  rcases h2 with h2 | ⟨g, cap, cur, a, b, c, d⟩
  · exact .inl h2
  · exact .inr ⟨g, cap, cur, a, b, (hk g b (Array.getElem?_eq_some_iff.1 c).1).trans c, d⟩
theorem ownsRow_lower {w : World} {base base' : Nat} {e : TypeId} {size : Nat} {v : Value} {n : Nat} {xs : List Value} (h : w.ownsRow base e size v n xs) (hb : base' ≤ base) : w.ownsRow base' e size v n xs := by
  obtain ⟨h1, h2⟩ := h
  refine ⟨h1, ?_⟩
  rcases h2 with h2 | ⟨g, cap, cur, a, b, c⟩
  · exact .inl h2
  · exact .inr ⟨g, cap, cur, a, by omega, c⟩
def SInv (w : World) (s : ByteArray) (W : World) (v : Value) (pos n : Nat) (xs : List Value) : Prop :=
  W.heap[w.heap.size]? = some (.stringIter s pos) ∧ W.ownsRow (w.heap.size + 1) 73 3 v n xs ∧ Below w.heap.size w W
theorem SInv.it {w : World} {s : ByteArray} {W : World} {v : Value} {pos n : Nat} {xs : List Value} (h : SInv w s W v pos n xs) : W.heap[w.heap.size]? = some (.stringIter s pos) := h.1
theorem SInv.own {w : World} {s : ByteArray} {W : World} {v : Value} {pos n : Nat} {xs : List Value} (h : SInv w s W v pos n xs) : W.ownsRow (w.heap.size + 1) 73 3 v n xs := h.2.1
theorem SInv.low {w : World} {s : ByteArray} {W : World} {v : Value} {pos n : Nat} {xs : List Value} (h : SInv w s W v pos n xs) : Below w.heap.size w W := h.2.2
theorem SInv.drewed {w : World} {s : ByteArray} {W : World} {v : Value} {pos n : Nat} {xs : List Value} (h : SInv w s W v pos n xs) : SInv w s W.drew v pos n xs := ⟨h.1, h.2.1, h.2.2.drew⟩
theorem SInv.below {w : World} {s : ByteArray} {W W1 : World} {v : Value} {pos n : Nat} {xs : List Value} (h : SInv w s W v pos n xs) (hb : Below W.heap.size W W1) : SInv w s W1 v pos n xs :=
  ⟨(hb.block _ (Array.getElem?_eq_some_iff.1 h.it).1).trans h.it, ownsRow_keep h.own (fun k _ hk => hb.block k hk), h.low.trans (hb.mono h.low.size)⟩
theorem SInv.last {w : World} {s : ByteArray} {W : World} {g cap pos n : Nat} {l : List Prt} {k x : Int} {t : Value} (h : SInv w s W (.slice (some ⟨g, 0, none⟩) (n + 1) cap) pos (n + 1) (flatP s l ++ [vi ki k, t, vi ki x])) (hn : l.length = n) :
    W.cell? ⟨g, n * 3 + 1, none⟩ = some t ∧ W.cell? ⟨g, n * 3 + 2, none⟩ = some (vi ki x) ∧ W.frozen? ⟨g, n * 3 + 1, none⟩ = false := by
  have e := flatP_length s l
  refine ⟨?_, ?_, h.own.frozenAt _⟩
  · rw [h.own.cellAt _ (by omega), List.getElem?_append_right (by omega), e, hn, show n * 3 + 1 - n * 3 = 1 by omega]; rfl
  · rw [h.own.cellAt _ (by omega), List.getElem?_append_right (by omega), e, hn, show n * 3 + 2 - n * 3 = 2 by omega]; rfl
theorem SInv.form {w : World} {s : ByteArray} {W : World} {v : Value} {pos n : Nat} {xs : List Value} (h : SInv w s W v pos (n + 1) xs) : ∃ g cap, v = .slice (some ⟨g, 0, none⟩) (n + 1) cap ∧ w.heap.size + 1 ≤ g ∧ n + 1 ≤ cap ∧ cap ≤ maxLen := by
  rcases h.own.2 with ⟨_, h2⟩ | ⟨g, cap, cur, e, h1, _, h3, h4, _⟩
  · simp at h2
  · exact ⟨g, cap, e, h1, h3, h4⟩
theorem SInv.store {w : World} {s : ByteArray} {W : World} {g cap pos n : Nat} {l : List Prt} {k : Int} {x : Nat} {t : Value} (h : SInv w s W (.slice (some ⟨g, 0, none⟩) (n + 1) cap) pos (n + 1) (flatP s l ++ [vi ki k, t, vi ki (x : Int)])) (hn : l.length = n) (hg : w.heap.size + 1 ≤ g) (y : Nat) :
    SInv w s (W.setCell ⟨g, n * 3 + 1, none⟩ (.string (s.extract x y))) (.slice (some ⟨g, 0, none⟩) (n + 1) cap) pos (n + 1) (flatP s (l ++ [(k, x, y)])) := by
  have q := (h.own.stored (n * 3 + 1) (.string (s.extract x y))).1
  rw [← hn, flatP_set, hn] at q
  exact ⟨by rw [Below.heap_setCell _ _ _ _ (by simp; omega)]; exact h.it, q, h.low.setCell (by simp; omega) _⟩
def SLast (w : World) (s : ByteArray) (W : World) (g cap pos n : Nat) (l : List Prt) (k : Int) (x : Nat) : Prop :=
  ∃ t, SInv w s W (.slice (some ⟨g, 0, none⟩) (n + 1) cap) pos (n + 1) (flatP s l ++ [vi ki k, t, vi ki (x : Int)])
theorem SInv.lastT {w : World} {s : ByteArray} {W : World} {g cap pos n : Nat} {l : List Prt} {k : Int} {x y : Nat} (h : SInv w s W (.slice (some ⟨g, 0, none⟩) (n + 1) cap) pos (n + 1) (flatP s (l ++ [(k, x, y)]))) : SLast w s W g cap pos n l k x :=
  ⟨.string (s.extract x y), by rw [flatP_append] at h; exact h⟩
def SplitOf (w : World) (s : ByteArray) (e : Ending) (w' : World) : Sum Nat (List Prt) → Prop
  | .inl i => e = zr (.tuple #[.slice none 0 0, vi ki (i : Int), vi ki 21])
  | .inr l => ∃ v, e = zr (.tuple #[v, vi ki 0, vi ki 0]) ∧ w'.ownsRow w.heap.size 73 3 v l.length (flatP s l)
theorem split_no {w : World} {s : ByteArray} {e : Ending} {w' : World} {i : Nat} (h : e = zr (.tuple #[.slice none 0 0, vi ki (i : Int), vi ki 21])) : SplitOf w s e w' (.inl i) := h
theorem split_yes {w : World} {s : ByteArray} {e : Ending} {w' : World} {l : List Prt} (v : Value) (h : e = zr (.tuple #[v, vi ki 0, vi ki 0])) (ho : w'.ownsRow w.heap.size 73 3 v l.length (flatP s l)) : SplitOf w s e w' (.inr l) := ⟨v, h, ho⟩
theorem part_new (w : World) (a b c : Value) (t : TypeId) : ∀ j u, [a, b, c][j]? = some u → (w.alloc (.cells #[a, b, c] t)).cell? ((⟨w.heap.size, 0, none⟩ : Addr).add j) = some u := by
  intro j u hj
  match j, hj with
  | 0, hj => simp at hj; subst hj; simp [Addr.add]
  | 1, hj => simp at hj; subst hj; simp [Addr.add]
  | 2, hj => simp at hj; subst hj; simp [Addr.add]
  | j + 3, hj => simp at hj
theorem part_one (m : Int) (t : ByteArray) (n : Int) : ∀ u ∈ [Value.int .i64 m, .string t, vi ki n], u.oneCell' = true := by
  intro x hx; simp at hx; rcases hx with rfl | rfl | rfl <;> rfl
theorem wsplit_any (s : ByteArray) (w : World) (hT : Tabs w) (hsz : s.size ≤ 2048) :
    Calls Tryd.prog 23 #[.string s] w fun e w' => Below w.heap.size w w' ∧ SplitOf w s e w' (splitB s) := by
  obtain ⟨i0, hi, hz0, hz1, hz2⟩ := info_parts infoPart
  have hs' : s.size ≤ maxLen := by unfold maxLen; omega
  have hsi : ¬ (2048 : Int) < (s.size : Int) := by omega
  obtain ⟨G, hG⟩ : ∃ G, G = splitB s := ⟨_, rfl⟩
  rw [← hG]
  have HG : Hid (splitF s s.size 0 [] 0 = G) := hG.symm
  clear hG
  go_enter Tryd.func23, Tryd.ntmps23
  go_wp2_with fail
  go_loopw [5, 6] (fun v a wr => ∃ (pos fuel : Nat) (l : List Prt) (k : Int), a = vi ki k ∧ 0 ≤ k ∧ k ≤ 3 ∧ SInv w s wr v pos l.length (flatP s l) ∧ Hid (splitF s fuel pos l k = G) ∧ s.size ≤ pos + fuel ∧ Cov s 0 l pos ∧ Lst l pos k) (fun _ _ wr => s.size - wr.iterPos w.heap.size)
  case atStart =>
    refine ⟨0, s.size, [], 0, rfl, by omega, by omega, ⟨?_, World.ownsRow_nil _ _ _ _, ?_⟩, HG, by omega, ⟨Nat.le_refl _, Nat.zero_le _, fun j h1 h2 => by omega⟩, .inl rfl⟩
    · exact World.iter_heap w s 0
    · exact (Below.refl _ _).alloc (Nat.le_refl _) _
  case round =>
    obtain ⟨pos, fuel, l, k, rfl, k0, k3, I, HS, hf, hC, hL⟩ := hrel
    have hpos0 : Hid (wr.iterPos w.heap.size = pos) := iterPos_eq I.it
    by_cases hp : pos < s.size
    · have hnx : ∀ ty, (Instr.next (.pointer (some ⟨w.heap.size, 0, none⟩)) true ty).run Tryd.prog wr = _ := fun ty => Lib.run_next_any_at wr w.heap.size s pos ty I.it hp
      have hwd := wd_pos s pos
      have hwl := wd_le s pos hp
      have hln := Cov_length s l 0 pos hC
      obtain ⟨fuel, rfl⟩ : ∃ f', fuel = f' + 1 := ⟨fuel - 1, by omega⟩
      have I2 : SInv w s (wr.iterAt w.heap.size s (pos + (Utf8.decode s pos).2)) u5 (pos + (Utf8.decode s pos).2) l.length (flatP s l) :=
        ⟨Lib.iterAt_heap wr w.heap.size s pos (pos + (Utf8.decode s pos).2) I.it, ownsRow_keep I.own (fun k hk _ => Lib.iterAt_other _ _ _ _ _ (by omega)), Lib.below_iterAt I.low (k := w.heap.size) (by omega) s (pos + (Utf8.decode s pos).2)⟩
      clear I
      have hka := fun w => kindAt_any s pos hs' hp w
      have hrl : kindP s pos ≠ -1 → _ := fun h w => Tryd.utf8_RuneLen ((Utf8.decode s pos).1 : Int) w
      have hrl2 : kindP s pos ≠ -1 → _ := wd_len s pos hp
      obtain ⟨R, hR⟩ : ∃ R : Int, ((Utf8.decode s pos).1 : Int) = R := ⟨_, rfl⟩
      obtain ⟨W1, hW1⟩ : ∃ W1, W1 = wr.iterAt w.heap.size s (pos + (Utf8.decode s pos).2) := ⟨_, rfl⟩
      rw [hR] at hnx hka hrl hrl2
      rw [← hW1] at hnx I2
      have R0 : 0 ≤ R := by omega
      have R1 : R ≤ 2147483647 := by have := decode_le s pos; omega
      clear hW1 hR
      obtain ⟨K, hK⟩ : ∃ K, kindP s pos = K := ⟨_, rfl⟩
      rw [hK] at hka hrl hrl2
      have HKA : Hid (∀ w : World, Tabs w → Calls Tryd.prog 43 #[.string s, vi ki (pos : Int), .int .i32 R] w fun e w' => e = zr (vi ki K) ∧ Below w.heap.size w w') := hka
      have HRL : Hid (K ≠ -1 → ∀ w : World, Calls Tryd.prog 44 #[.int .i32 R] w fun e w' => e = zr (vi ki ((Utf8.decode s pos).2 : Int)) ∧ w' = w) := fun h w => by have := hrl h w; rw [hrl2 h] at this; exact this
      have HI : Hid (SInv w s W1 u5 (pos + (Utf8.decode s pos).2) l.length (flatP s l)) := I2
      have HK : Hid (kindP s pos = K) := hK
      have hKr : K = -1 ∨ K = 0 ∨ K = 1 ∨ K = 2 ∨ K = 3 := by rw [← hK]; exact kindW_range _ _
      have HC : Hid (Cov s 0 l pos) := hC
      have HL : Hid (Lst l pos k) := hL
      have hT1 : Tabs W1 := Tabs_below hT I2.low
      clear hka hrl hrl2 I2 hK hC hL
      go_wp2_with fail
      refine (HKA.out _ hT1).mono ?_
      rintro e w2 ⟨rfl, b2⟩
      have HI2 : Hid (SInv w s w2 u5 (pos + (Utf8.decode s pos).2) l.length (flatP s l)) := HI.out.below b2
      clear HKA HI b2 hT1 hnx R0
      by_cases hw : K = -1
      · subst hw
        have HE : G = .inl pos := by rw [← HS.out, splitF_wrong hp HK.out]
        subst HE
        go_wp2_with fail
        go_ret3
        exact ⟨HI2.out.low, split_no rfl⟩
      · have HRL2 : Hid (∀ w : World, Calls Tryd.prog 44 #[.int .i32 R] w fun e w' => e = zr (vi ki ((Utf8.decode s pos).2 : Int)) ∧ w' = w) := HRL.out hw
        by_cases hb0 : K = 0
        · subst hb0
          have HE : Hid (splitF s fuel (pos + (Utf8.decode s pos).2) l 0 = G) := by show _ = _; rw [← HS.out, splitF_blank hp HK.out]
          have HC2 : Hid (Cov s 0 l (pos + (Utf8.decode s pos).2)) := Cov_blank hp HK.out HC.out
          clear HRL HRL2
          go_wp2_with fail
          go_roundw
          case rel => exact ⟨pos + (Utf8.decode s pos).2, fuel, l, 0, rfl, by omega, by omega, HI2.out, HE, by omega, HC2.out, .inl rfl⟩
          case measure => rw [hpos0.out, iterPos_eq HI2.out.it]; omega
        · by_cases hnew : K = 3 ∨ K ≠ k
          · have HE : Hid (splitF s fuel (pos + (Utf8.decode s pos).2) (l ++ [(K, pos, pos + (Utf8.decode s pos).2)]) K = G) := by show _ = _; rw [← HS.out, splitF_new hp (by rw [HK.out]; exact hw) (by rw [HK.out]; exact hb0) (by rw [HK.out]; exact hnew), HK.out]
            have HC2 : Hid (Cov s 0 (l ++ [(K, pos, pos + (Utf8.decode s pos).2)]) (pos + (Utf8.decode s pos).2)) := Cov_new K hp HC.out
            obtain ⟨n, hn⟩ : ∃ n, l.length = n := ⟨_, rfl⟩
            have hn2 : n ≤ 2048 := by omega
            have hn3 : (0 : Int) ≤ (n : Int) := by omega
            have hn4 : (n : Int) ≤ 2048 := by omega
            have hwr : IntKind.i64.wrap ((pos : Int) + ((Utf8.decode s pos).2 : Int)) = ((pos + (Utf8.decode s pos).2 : Nat) : Int) := by rw [IntKind.wrap_i64]; omega
            have hb1 : (pos : Int) ≤ (pos : Int) + ((Utf8.decode s pos).2 : Int) := by omega
            have hb2 : (pos : Int) + ((Utf8.decode s pos).2 : Int) ≤ (s.size : Int) := by omega
            have hb3 : (0 : Int) ≤ (pos : Int) := by omega
            have hb4 : (0 : Int) ≤ (pos : Int) + ((Utf8.decode s pos).2 : Int) := by omega
            have c55 : Tryd.prog.cellsOf 73 = 3 := by kernel_rfl
            have HI3 : Hid (SInv w s w2 u5 (pos + (Utf8.decode s pos).2) n (flatP s l)) := by have := HI2.out; rw [hn] at this; exact this
            have hlt2 : w.heap.size < w2.heap.size := (Array.getElem?_eq_some_iff.1 HI3.out.it).1
            have hr1 : some w.heap.size ≠ u5.ownBlock := fun e => by have := (HI3.out.own.lt _ e.symm).1; omega
            have HRr : Hid (∀ k, u5.ownBlock = some k → w.heap.size ≤ k) := fun k hk => by have := (HI3.out.own.lt _ hk).1; omega
            have hK3 : (K = 3 ∨ (K == 3) = false ∧ (K == k) = false) := by
              by_cases z : K = 3
              · exact .inl z
              · right; constructor
                · simp; exact z
                · simp; omega
            have hKr2 : 1 ≤ K ∧ K ≤ 3 := by omega
            obtain ⟨K1, K2⟩ := hKr2
            have hK0 : (K == 0) = false := by simp; omega
            have hKm : (K == -1) = false := by simp; omega
            clear HRL hKr HI2 HS HL HC hln hnew hw hb0
            rcases HI3.out.own.2 with ⟨e0, -⟩ | ⟨g0, cap0, cur, e0, _, _, _, _, _, _⟩
            all_goals
              subst e0
              rcases hK3 with rfl | ⟨y1, y2⟩
              all_goals
                go_wp2_with (first
                  | (at_builtin; refine wpList_append_own _ rfl _ _ 69 rfl (w.heap.size + 1) 73 i0 (.agg #[vi ki 0, .string ByteArray.empty, vi ki 0]) 3 32 Tryd.underlying69 hi hz0 hz1 hz2 rfl (by decide) _ n (flatP s l) rfl (HI3.out.own.alloc _) ⟨w2.heap.size, 0, none⟩ 1 1 [vi ki _, .string ByteArray.empty, vi ki (pos : Int)] rfl rfl (part_new _ _ _ _ _) (part_one _ _ _) (by unfold maxLen; omega) (by omega) (by simp; omega) ?_; intro v' w3 hown' hgrow3 hnil3
                     have HJ : Hid (SInv w s w3 v' (pos + (Utf8.decode s pos).2) (n + 1) (flatP s l ++ [vi ki _, .string ByteArray.empty, vi ki (pos : Int)])) := ⟨by rw [hgrow3.block _ (by simp; omega) hr1, Below.heap_alloc _ _ _ hlt2]; exact HI3.out.it, hown', Below.grown (HI3.out.low.alloc (by omega) _) hgrow3 (by simp; omega) HRr.out⟩
                     clear hown' hgrow3 hnil3
                     obtain ⟨g, cap, e1, hg, hc1, hc2⟩ := HJ.out.form
                     subst e1
                     unfold maxLen at hc2))
                refine wp_region_held_drew (S := fun W => SLast w s W g cap (pos + (Utf8.decode s pos).2) n l _ pos) (by kernel_rfl) ⟨_, HJ.out.drewed⟩ (fun hHeld => ?_)
                refine tks 0 ⟨some 47, _, _, _, _, none⟩ rfl ?_
                simp only [za, zb, zc, zd]
                refine tks 1 ⟨some 48, _, _, _, _, none⟩ rfl ?_
                simp only [za, zb, zc, zd]
                refine tks 2 ⟨some 49, _, _, _, _, none⟩ rfl ?_
                simp only [za, zb, zc, zd]
                refine tks 3 ⟨some 50, _, _, _, _, none⟩ rfl ?_
                simp only [za, zb, zc, zd]
                refine tks 4 ⟨some 51, _, _, _, _, none⟩ rfl ?_
                simp only [za, zb, zc, zd]
                refine tk (v := ?_) 5 ⟨some 52, _, _, _, _, none⟩ rfl ?_ ?_
                case refine_2 => (intro w9 hSw; obtain ⟨t, hSw⟩ := hSw; obtain ⟨sa, sb, sc⟩ := SInv.last hSw hn; clear hSw; go_simp; try with_reducible rfl)
                simp only [za, zb, zc, zd]
                refine tks 6 ⟨some 53, _, _, _, _, none⟩ rfl ?_
                simp only [za, zb, zc, zd]
                refine tks 7 ⟨some 54, _, _, _, _, none⟩ rfl ?_
                simp only [za, zb, zc, zd]
                refine rd 8 ⟨some 55, _, _, _, _, none⟩ rfl (fun K hK => ?_)
                go_simp
                refine (HRL2.out _).mono ?_
                rintro e w4 ⟨rfl, rfl⟩
                refine hK.out _ _ hHeld (fun hHeld => ?_)
                clear hK K
                refine tks 9 ⟨some 56, _, _, _, _, none⟩ rfl ?_
                simp only [za, zb, zc, zd]
                refine tks 10 ⟨some 57, _, _, _, _, none⟩ rfl ?_
                simp only [za, zb, zc, zd]
                refine tks 11 ⟨some 58, _, _, _, _, none⟩ rfl ?_
                simp only [za, zb, zc, zd]
                refine tks 12 ⟨some 59, _, _, _, _, none⟩ rfl ?_
                simp only [za, zb, zc, zd]
                obtain ⟨t0, hh⟩ := hHeld
                obtain ⟨sa, sb, sc⟩ := SInv.last hh hn
                have HN := hh.store hn hg (pos + (Utf8.decode s pos).2)
                refine rd 13 ⟨none, _, _, _, _, none⟩ rfl (fun K hK => ?_)
                go_simp
                refine hK.out _ _ HN.lastT (fun hHeld2 => ?_)
                clear hK K hHeld2 sa sb sc
                have HM : Hid (SInv w s _ (.slice (some ⟨g, 0, none⟩) (n + 1) cap) (pos + (Utf8.decode s pos).2) (n + 1) (flatP s (l ++ [(_, pos, pos + (Utf8.decode s pos).2)]))) := HN
                clear HN hh
                refine wpAnyH_done (by kernel_rfl) ?_ _
                go_wp2_with fail
                go_roundw
                case rel =>
                  refine ⟨pos + (Utf8.decode s pos).2, fuel, l ++ [(_, pos, pos + (Utf8.decode s pos).2)], _, rfl, by omega, by omega, ?_, HE, by omega, HC2.out, .inr ⟨_, _, _, rfl⟩⟩
                  have := HM.out
                  rw [List.length_append, hn]
                  exact this
                case measure => rw [hpos0.out]; exact Nat.lt_of_le_of_lt (Nat.le_of_eq (congrArg (fun z => s.size - z) (iterPos_eq HM.out.it))) (by show s.size - (pos + (Utf8.decode s pos).2) < s.size - pos; omega)
          · obtain ⟨h3, hk⟩ : K ≠ 3 ∧ K = k := by omega
            subst hk
            rcases HL.out with z | ⟨l', q, x, rfl⟩
            · exact absurd z hb0
            · have hKr2 : K = 1 ∨ K = 2 := by omega
              have HE : Hid (splitF s fuel (pos + (Utf8.decode s pos).2) (l' ++ [(q, x, pos + (Utf8.decode s pos).2)]) K = G) := by show _ = _; rw [← HS.out, splitF_more hp (by rw [HK.out]; exact hw) (by rw [HK.out]; exact hb0) (by rw [HK.out]; exact h3) HK.out]
              have HC2 : Hid (Cov s 0 (l' ++ [(q, x, pos + (Utf8.decode s pos).2)]) (pos + (Utf8.decode s pos).2)) := Cov_ext hp HC.out
              obtain ⟨n, hn⟩ : ∃ n, l'.length = n := ⟨_, rfl⟩
              have HI3 : Hid (SInv w s w2 u5 (pos + (Utf8.decode s pos).2) (n + 1) (flatP s l' ++ [vi ki q, .string (s.extract x pos), vi ki (x : Int)])) := by
                have := HI2.out
                rw [flatP_append, List.length_append, hn] at this
                exact this
              obtain ⟨g, cap, e0, hg, hc1, hc2⟩ := HI3.out.form
              subst e0
              have hxp : x < pos := ((Cov_snoc s q x pos pos l' 0).1 HC.out).2.1
              have hn2 : n ≤ 2048 := by simp only [List.length_append, hn] at hln; omega
              have hn3 : (0 : Int) ≤ (n : Int) := by omega
              have hn4 : (n : Int) ≤ 2048 := by omega
              have hwr : IntKind.i64.wrap ((pos : Int) + ((Utf8.decode s pos).2 : Int)) = ((pos + (Utf8.decode s pos).2 : Nat) : Int) := by rw [IntKind.wrap_i64]; omega
              have hb1 : (x : Int) ≤ (pos : Int) + ((Utf8.decode s pos).2 : Int) := by omega
              have hb2 : (pos : Int) + ((Utf8.decode s pos).2 : Int) ≤ (s.size : Int) := by omega
              have hb3 : (0 : Int) ≤ (x : Int) := by omega
              have hb4 : (0 : Int) ≤ (pos : Int) + ((Utf8.decode s pos).2 : Int) := by omega
              have c55 : Tryd.prog.cellsOf 73 = 3 := by kernel_rfl
              unfold maxLen at hc2
              clear HRL hKr HI2 HS HL HC hln hnew hw hb0 h3 k0 k3
              rcases hKr2 with rfl | rfl
              all_goals
                go_wp2_with fail
                refine wp_region_held_drew (S := fun W => SLast w s W g cap (pos + (Utf8.decode s pos).2) n l' q x) (by kernel_rfl) ⟨_, HI3.out.drewed⟩ (fun hHeld => ?_)
                refine tks 0 ⟨some 47, _, _, _, _, none⟩ rfl ?_
                simp only [za, zb, zc, zd]
                refine tks 1 ⟨some 48, _, _, _, _, none⟩ rfl ?_
                simp only [za, zb, zc, zd]
                refine tks 2 ⟨some 49, _, _, _, _, none⟩ rfl ?_
                simp only [za, zb, zc, zd]
                refine tks 3 ⟨some 50, _, _, _, _, none⟩ rfl ?_
                simp only [za, zb, zc, zd]
                refine tks 4 ⟨some 51, _, _, _, _, none⟩ rfl ?_
                simp only [za, zb, zc, zd]
                refine tk (v := ?_) 5 ⟨some 52, _, _, _, _, none⟩ rfl ?_ ?_
                case refine_2 => (intro w9 hSw; obtain ⟨t, hSw⟩ := hSw; obtain ⟨sa, sb, sc⟩ := SInv.last hSw hn; clear hSw; go_simp; try with_reducible rfl)
                simp only [za, zb, zc, zd]
                refine tks 6 ⟨some 53, _, _, _, _, none⟩ rfl ?_
                simp only [za, zb, zc, zd]
                refine tks 7 ⟨some 54, _, _, _, _, none⟩ rfl ?_
                simp only [za, zb, zc, zd]
                refine rd 8 ⟨some 55, _, _, _, _, none⟩ rfl (fun K hK => ?_)
                go_simp
                refine (HRL2.out _).mono ?_
                rintro e w4 ⟨rfl, rfl⟩
                refine hK.out _ _ hHeld (fun hHeld => ?_)
                clear hK K
                refine tks 9 ⟨some 56, _, _, _, _, none⟩ rfl ?_
                simp only [za, zb, zc, zd]
                refine tks 10 ⟨some 57, _, _, _, _, none⟩ rfl ?_
                simp only [za, zb, zc, zd]
                refine tks 11 ⟨some 58, _, _, _, _, none⟩ rfl ?_
                simp only [za, zb, zc, zd]
                refine tks 12 ⟨some 59, _, _, _, _, none⟩ rfl ?_
                simp only [za, zb, zc, zd]
                obtain ⟨t0, hh⟩ := hHeld
                obtain ⟨sa, sb, sc⟩ := SInv.last hh hn
                have HN := hh.store hn hg (pos + (Utf8.decode s pos).2)
                refine rd 13 ⟨none, _, _, _, _, none⟩ rfl (fun K hK => ?_)
                go_simp
                refine hK.out _ _ HN.lastT (fun hHeld2 => ?_)
                clear hK K hHeld2 sa sb sc
                have HM : Hid (SInv w s _ (.slice (some ⟨g, 0, none⟩) (n + 1) cap) (pos + (Utf8.decode s pos).2) (n + 1) (flatP s (l' ++ [(q, x, pos + (Utf8.decode s pos).2)]))) := HN
                clear HN hh
                refine wpAnyH_done (by kernel_rfl) ?_ _
                go_wp2_with fail
                go_roundw
                case rel =>
                  refine ⟨pos + (Utf8.decode s pos).2, fuel, l' ++ [(q, x, pos + (Utf8.decode s pos).2)], _, rfl, by omega, by omega, ?_, HE, by omega, HC2.out, .inr ⟨_, _, _, rfl⟩⟩
                  have := HM.out
                  rw [List.length_append, hn]
                  exact this
                case measure => rw [hpos0.out]; exact Nat.lt_of_le_of_lt (Nat.le_of_eq (congrArg (fun z => s.size - z) (iterPos_eq HM.out.it))) (by show s.size - (pos + (Utf8.decode s pos).2) < s.size - pos; omega)
    · have hnx : ∀ ty, (Instr.next (.pointer (some ⟨w.heap.size, 0, none⟩)) true ty).run Tryd.prog wr = _ := fun ty => Lib.run_next_end_at wr w.heap.size s pos ty I.it hp
      have e : G = .inr l := by rw [← HS.out]; exact splitF_end s fuel pos l _ hp
      subst e
      have HI : Hid (SInv w s wr u5 pos l.length (flatP s l)) := I
      clear I
      go_wp2_with fail
      go_ret3
      exact ⟨HI.out.low, split_yes _ rfl (ownsRow_lower HI.out.own (by omega))⟩
theorem wsplit_long (s : ByteArray) (w : World) (hs : s.size ≤ maxLen) (hsz : ¬ s.size ≤ 2048) :
    Calls Tryd.prog 23 #[.string s] w fun e w' => e = zr (.tuple #[.slice none 0 0, vi ki 0, vi ki 3]) ∧ w' = w := by
  unfold maxLen at hs
  have hsi : (2048 : Int) < (s.size : Int) := by omega
  go_enter Tryd.func23, Tryd.ntmps23
  go_wp2_with fail
  go_ret3
  exact ⟨rfl, rfl⟩
abbrev PT := Int × ByteArray × Int
def flatT : List PT → List Value
 | [] => []
 | p :: l => vi ki p.1 :: .string p.2.1 :: vi ki p.2.2 :: flatT l
theorem flatT_append : ∀ (l k : List PT), flatT (l ++ k) = flatT l ++ flatT k
 | [], k => rfl
 | r :: l, k => by simp [flatT, flatT_append l k]
theorem flatT_at : ∀ (l : List PT) (i : Nat) (r : PT), l[i]? = some r → (flatT l)[i * 3]? = some (vi ki r.1) ∧ (flatT l)[i * 3 + 1]? = some (.string r.2.1) ∧ (flatT l)[i * 3 + 2]? = some (vi ki r.2.2)
 | [], i, r, h => by simp at h
 | x :: l, 0, r, h => by simp at h; subst h; exact ⟨rfl, rfl, rfl⟩
 | x :: l, i + 1, r, h => by
  have q := flatT_at l i r (by simpa using h)
  rw [show (i + 1) * 3 = i * 3 + 1 + 1 + 1 by omega]
  exact q
def texts (s : ByteArray) (l : List Prt) : List PT := l.map fun p => (p.1, s.extract p.2.1 p.2.2, (p.2.1 : Int))
theorem flatP_texts (s : ByteArray) : ∀ l, flatP s l = flatT (texts s l)
 | [] => rfl
 | p :: l => by simp [flatP, texts, flatT]; exact flatP_texts s l
theorem texts_length (s : ByteArray) (l : List Prt) : (texts s l).length = l.length := by simp [texts]
theorem infoRPart : (Tryd.prog.info? 86).map (fun i => (i.zero, i.size, i.bytes)) = some (some (.agg #[vi ki 0, .string ByteArray.empty, vi ki 0]), 3, 32) := by kernel_rfl
def At3 (w : World) (g k : Nat) (a : Int) (t : ByteArray) (x : Int) : Prop := w.cell? ⟨g, k * 3, none⟩ = some (vi ki a) ∧ w.cell? ⟨g, k * 3 + 1, none⟩ = some (.string t) ∧ w.cell? ⟨g, k * 3 + 2, none⟩ = some (vi ki x)
theorem At3.below {w W : World} {g k B : Nat} {a : Int} {t : ByteArray} {x : Int} (h3 : At3 w g k a t x) (hg : g < B) (h : Below B w W) : At3 W g k a t x :=
 ⟨(h.cell (p := ⟨g, k * 3, none⟩) hg).trans h3.1, (h.cell (p := ⟨g, k * 3 + 1, none⟩) hg).trans h3.2.1, (h.cell (p := ⟨g, k * 3 + 2, none⟩) hg).trans h3.2.2⟩
end Go.Proofs.YtaoocecipacnhaaDoor
