import Derived.Test.YtaoocecipacnhaaDoorWz
import Derived.Test.YtaoocecipacnhaaDoorW0
import Derived.Test.YtaoocecipacnhaaDoorProg
import Derived.WalkKit
import Derived.ProofKit
import Derived.Laws.IdiomStrings
import Derived.Laws.RangeAny
import Derived.Lib.OthersKept
import Derived.Deep.LoopGhost
import Derived.Deep.RegionWith
import Derived.Deep.DeepMust
import Derived.Deep.RegionHeld3
import Derived.Below
open Go.Value renaming int → vi
open Go.IntKind renaming i64 → ki
open List renaming setIfInBounds_toArray → zb, set_cons_zero → zc, set_cons_succ → zd
open Go.Act renaming put → za
open Go.Ending renaming returned → zr
set_option maxRecDepth 100000
set_option maxHeartbeats 16000000
set_option linter.unusedVariables false
namespace Go.Proofs.YtaoocecipacnhaaDoor
def lowC (c : UInt8) : UInt8 := if 65 ≤ c.toNat ∧ c.toNat ≤ 90 then c + 32 else c
def lowB (s : ByteArray) : ByteArray := ⟨s.data.map lowC⟩
def lowTo (s : ByteArray) (p : Nat) : List UInt8 := (s.data.toList.take p).map lowC ++ s.data.toList.drop p
theorem sz (s : ByteArray) : s.data.toList.length = s.size := Array.length_toList
theorem lowB_size (s : ByteArray) : (lowB s).size = s.size := by show (s.data.map lowC).size = s.data.size; exact Array.size_map
theorem low32 (c : UInt8) (h : 65 ≤ c.toNat ∧ c.toNat ≤ 90) : (c + 32).toNat = c.toNat + 32 := by rw [UInt8.toNat_add]; simp; omega
theorem lowC_lowC (c : UInt8) : lowC (lowC c) = lowC c := by
 unfold lowC
 by_cases h : 65 ≤ c.toNat ∧ c.toNat ≤ 90
 ·have := low32 c h
  simp only [h, and_self, if_true]
  rw [if_neg (by omega)]
 ·simp only [h, if_false]
theorem lowB_lowB (s : ByteArray) : lowB (lowB s) = lowB s := by
 unfold lowB
 simp only [Array.map_map]
 congr 2
 funext c
 exact lowC_lowC c
theorem lowTo_get (s : ByteArray) (p j : Nat) : (lowTo s p)[j]? = (s.data.toList[j]?).map (fun c => if j < p then lowC c else c) := by
 unfold lowTo
 by_cases hj : j < s.data.toList.length
 ·by_cases h : j < p
  ·rw [List.getElem?_append_left (by simp at hj ⊢; omega)]
   simp [h]
  ·have hl : ((s.data.toList.take p).map lowC).length = p := by rw [List.length_map, List.length_take]; omega
   rw [List.getElem?_append_right (by rw [hl]; omega), hl, List.getElem?_drop, show p + (j - p) = j by omega]
   simp [h]
 ·rw [List.getElem?_eq_none (by simp only [List.length_append, List.length_map, List.length_take, List.length_drop]; omega), List.getElem?_eq_none (by omega)]
  rfl
theorem lowTo_length (s : ByteArray) (p : Nat) : (lowTo s p).length = s.size := by
 unfold lowTo; simp only [List.length_append, List.length_map, List.length_take, List.length_drop, Array.length_toList]; show _ = s.data.size; omega
theorem lowTo_zero (s : ByteArray) : lowTo s 0 = s.data.toList := by simp [lowTo]
theorem lowTo_all (s : ByteArray) (p : Nat) (h : s.size ≤ p) : lowTo s p = (lowB s).data.toList := by
 unfold lowTo lowB
 rw [List.take_of_length_le (by rw [sz]; exact h), List.drop_of_length_le (by rw [sz]; exact h)]
 simp
theorem lowTo_end (s : ByteArray) (p : Nat) (h : ¬ p < s.size) : (⟨(lowTo s p).toArray⟩ : ByteArray) = lowB s := by
 rw [lowTo_all s p (by omega)]
theorem get_lt (s : ByteArray) (k : Nat) (h : k < s.size) : s.get! k = s[k]'h := by
 show s.data[k]! = _
 rw [getElem!_pos s.data k h]
 rfl
theorem bt_get (s : ByteArray) (j : Nat) (h : j < s.size) : s.data.toList[j]? = some (s[j]'h) ∧ (s[j]'h).toNat = bt s j := by
 constructor
 ·rw [List.getElem?_eq_getElem (by rw [sz]; exact h)]; rfl
 ·unfold bt; rw [get_lt s j h]
theorem lowTo_skip (s : ByteArray) (pos : Nat) (h : pos < s.size) (hR : ¬ (65 ≤ (Utf8.decode s pos).1 ∧ (Utf8.decode s pos).1 ≤ 90)) :
  lowTo s (pos + (Utf8.decode s pos).2) = lowTo s pos := by
 have key : ∀ j, pos ≤ j → j < pos + (Utf8.decode s pos).2 → j < s.size → ¬ (65 ≤ bt s j ∧ bt s j ≤ 90) := by
  intro j a b hj
  rcases dec_shape s pos h with ⟨c, e⟩ | ⟨c, e⟩ | ⟨c, _, _, _, _, d, _⟩
  ·rw [e] at hR b
   obtain rfl : j = pos := by simp only at b; omega
   exact hR
  ·rw [e] at b
   obtain rfl : j = pos := by simp only at b; omega
   omega
  ·by_cases q : j = pos
   ·subst q; omega
   ·have := d (j - pos) (by omega) (by omega)
    rw [show pos + (j - pos) = j by omega] at this
    omega
 apply List.ext_getElem?
 intro j
 rw [lowTo_get, lowTo_get]
 by_cases hj : j < s.size
 ·obtain ⟨e1, e2⟩ := bt_get s j hj
  rw [e1]
  simp only [Option.map_some, Option.some.injEq]
  by_cases c1 : j < pos
  ·rw [if_pos c1, if_pos (by omega)]
  ·rw [if_neg c1]
   by_cases c2 : j < pos + (Utf8.decode s pos).2
   ·rw [if_pos c2]
    unfold lowC
    rw [if_neg (by rw [e2]; exact key j (by omega) c2 hj)]
   ·rw [if_neg c2]
 ·rw [List.getElem?_eq_none (by rw [sz]; omega)]
  rfl
theorem lowTo_put (s : ByteArray) (pos : Nat) (h : pos < s.size) (hR : 65 ≤ (Utf8.decode s pos).1 ∧ (Utf8.decode s pos).1 ≤ 90) :
  (Utf8.decode s pos) = (bt s pos, 1) ∧ (lowTo s pos)[pos]? = some (s[pos]'h) ∧ lowTo s (pos + (Utf8.decode s pos).2) = (lowTo s pos).set pos (s[pos]'h + 32) ∧ (s[pos]'h + 32).toNat = (Utf8.decode s pos).1 + 32 ∧ (s[pos]'h).toNat = (Utf8.decode s pos).1 := by
 obtain ⟨e1, e2⟩ := bt_get s pos h
 rcases dec_shape s pos h with ⟨c, e⟩ | ⟨c, e⟩ | ⟨c, _, _, _, _, d, _⟩
 ·have hb : 65 ≤ (s[pos]'h).toNat ∧ (s[pos]'h).toNat ≤ 90 := by rw [e] at hR; simp only at hR; omega
  refine ⟨e, by rw [lowTo_get, e1]; simp, ?_, by rw [low32 _ hb, e, e2], by rw [e, e2]⟩
  apply List.ext_getElem?
  intro j
  rw [e, List.getElem?_set, lowTo_get, lowTo_get]
  by_cases q : pos = j
  ·subst q
   rw [if_pos rfl, if_pos (by rw [lowTo_length]; exact h), e1]
   simp only [Option.map_some, Option.some.injEq]
   rw [if_pos (by omega)]
   unfold lowC
   rw [if_pos hb]
  ·rw [if_neg q]
   have : (j < pos + 1) = (j < pos) := propext ⟨fun _ => by omega, fun _ => by omega⟩
   simp only [this]
 ·rw [e] at hR; simp only at hR; omega
 ·omega
def rN (c : Nat) : Nat := if 194 ≤ c ∧ c ≤ 223 then 2 else if 224 ≤ c ∧ c ≤ 239 then 3 else if 240 ≤ c ∧ c ≤ 244 then 4 else 0
def rLo (c : Nat) : Nat := if c = 224 then 160 else if c = 240 then 144 else 128
def rHi (c : Nat) : Nat := if c = 237 then 159 else if c = 244 then 143 else 191
def rlong (s : ByteArray) (i : Nat) : Nat :=
 if bt s i < 128 then 1
 else if rN (bt s i) = 0 ∨ s.size - i < rN (bt s i) ∨ bt s (i + 1) < rLo (bt s i) ∨ rHi (bt s i) < bt s (i + 1) then 0
 else if 3 ≤ rN (bt s i) ∧ (bt s (i + 2) < 128 ∨ 191 < bt s (i + 2)) then 0
 else if 4 ≤ rN (bt s i) ∧ (bt s (i + 3) < 128 ∨ 191 < bt s (i + 3)) then 0
 else rN (bt s i)
theorem rlong_decodeN (n b0 b1 b2 b3 : Nat) (hn : 1 ≤ n) (h0 : b0 < 256) (h1 : b1 < 256) (h2 : b2 < 256) (h3 : b3 < 256) (hb : 128 ≤ b0) :
  (if rN b0 = 0 ∨ n < rN b0 ∨ b1 < rLo b0 ∨ rHi b0 < b1 then 0
   else if 3 ≤ rN b0 ∧ (b2 < 128 ∨ 191 < b2) then 0
   else if 4 ≤ rN b0 ∧ (b3 < 128 ∨ 191 < b3) then 0
   else rN b0) = if Lib.decodeN n b0 b1 b2 b3 = (65533, 1) then 0 else (Lib.decodeN n b0 b1 b2 b3).2 := by
 by_cases c2 : 194 ≤ b0 ∧ b0 ≤ 223
 ·rw [← Lib.slow_C2 n b0 b1 b2 b3 hn h1 h2 h3 (by omega)]
  have e1 : rN b0 = 2 := by unfold rN; rw [if_pos c2]
  have e2 : rLo b0 = 128 := by unfold rLo; rw [if_neg (by omega), if_neg (by omega)]
  have e3 : rHi b0 = 191 := by unfold rHi; rw [if_neg (by omega), if_neg (by omega)]
  rw [e1, e2, e3]
  unfold Lib.slowN
  repeat' split
  all_goals first | rfl | omega | (simp_all; done) | (simp_all; omega)
 ·by_cases c3 : 224 ≤ b0 ∧ b0 ≤ 239
  ·have e1 : rN b0 = 3 := by unfold rN; rw [if_neg c2, if_pos c3]
   rw [e1]
   have hq : ∃ lo hi, rLo b0 = lo ∧ rHi b0 = hi ∧ Lib.slowN n b0 b1 b2 b3 3 lo hi = Lib.decodeN n b0 b1 b2 b3 := by
    by_cases a : b0 = 224
    ·exact ⟨160, 191, by unfold rLo; rw [if_pos a], by unfold rHi; rw [if_neg (by omega), if_neg (by omega)], Lib.slow_E0 n b0 b1 b2 b3 hn h1 h2 h3 a⟩
    ·by_cases b : b0 = 237
     ·exact ⟨128, 159, by unfold rLo; rw [if_neg (by omega), if_neg (by omega)], by unfold rHi; rw [if_pos b], Lib.slow_ED n b0 b1 b2 b3 hn h1 h2 h3 b⟩
     ·exact ⟨128, 191, by unfold rLo; rw [if_neg (by omega), if_neg (by omega)], by unfold rHi; rw [if_neg (by omega), if_neg (by omega)], Lib.slow_E1 n b0 b1 b2 b3 hn h1 h2 h3 (by omega)⟩
   obtain ⟨lo, hi, e2, e3, e⟩ := hq
   rw [e2, e3, ← e]
   unfold Lib.slowN
   repeat' split
   all_goals first | rfl | omega | (simp_all; done) | (simp_all; omega)
  ·by_cases c4 : 240 ≤ b0 ∧ b0 ≤ 244
   ·have e1 : rN b0 = 4 := by unfold rN; rw [if_neg c2, if_neg c3, if_pos c4]
    rw [e1]
    have hq : ∃ lo hi, rLo b0 = lo ∧ rHi b0 = hi ∧ Lib.slowN n b0 b1 b2 b3 4 lo hi = Lib.decodeN n b0 b1 b2 b3 := by
     by_cases a : b0 = 240
     ·exact ⟨144, 191, by unfold rLo; rw [if_neg (by omega), if_pos a], by unfold rHi; rw [if_neg (by omega), if_neg (by omega)], Lib.slow_F0 n b0 b1 b2 b3 hn h1 h2 h3 a⟩
     ·by_cases b : b0 = 244
      ·exact ⟨128, 143, by unfold rLo; rw [if_neg (by omega), if_neg (by omega)], by unfold rHi; rw [if_neg (by omega), if_pos b], Lib.slow_F4 n b0 b1 b2 b3 hn h1 h2 h3 b⟩
      ·exact ⟨128, 191, by unfold rLo; rw [if_neg (by omega), if_neg (by omega)], by unfold rHi; rw [if_neg (by omega), if_neg (by omega)], Lib.slow_F1 n b0 b1 b2 b3 hn h1 h2 h3 (by omega)⟩
    obtain ⟨lo, hi, e2, e3, e⟩ := hq
    rw [e2, e3, ← e]
    unfold Lib.slowN
    repeat' split
    all_goals first | rfl | omega | (simp_all; done) | (simp_all; omega)
   ·have e1 : rN b0 = 0 := by unfold rN; rw [if_neg c2, if_neg c3, if_neg c4]
    rw [if_pos (.inl e1)]
    have : Lib.decodeN n b0 b1 b2 b3 = (65533, 1) := by
     unfold Lib.decodeN
     repeat' split
     all_goals first | rfl | omega
    rw [if_pos this]
def blankN (c : Nat) : Bool := c == 32 || c == 9 || c == 10 || c == 13
def digitN (c : Nat) : Bool := decide (48 ≤ c) && decide (c ≤ 57)
def letterN (c : Nat) : Bool := (decide (97 ≤ c) && decide (c ≤ 122)) || (decide (65 ≤ c) && decide (c ≤ 90)) || c == 95 || decide (127 < c)
def bk (c : Nat) : Int := if blankN c then 0 else if digitN c then 1 else if letterN c then 2 else 3
theorem bk_range (c : Nat) : bk c = 0 ∨ bk c = 1 ∨ bk c = 2 ∨ bk c = 3 := by
  unfold bk; repeat' split
  all_goals simp
theorem bk_blank (c : Nat) : blankN c = true ↔ bk c = 0 := by
  unfold bk; repeat' split
  all_goals simp_all
theorem bk_hi (c : Nat) (h : 128 ≤ c) : bk c = 2 := by
  unfold bk
  have a : blankN c = false := by simp [blankN]; omega
  have b : digitN c = false := by simp [digitN]; omega
  have d : letterN c = true := by simp [letterN]; omega
  simp [a, b, d]
theorem bk_digit (c : Nat) : digitN c = true ↔ bk c = 1 := by
  unfold bk; repeat' split
  all_goals simp_all [blankN, digitN]
  all_goals omega
theorem bk_letter (c : Nat) : letterN c = true ↔ bk c = 2 := by
  unfold bk; repeat' split
  all_goals simp_all [blankN, digitN, letterN]
  all_goals omega
def badN (s : ByteArray) (i : Nat) : Bool := (rlong s i == 0) || (decide (bt s i < 32) && !blankN (bt s i)) || (bt s i == 127)
theorem rlong_eq (s : ByteArray) (i : Nat) (h : i < s.size) : rlong s i = if bt s i < 128 then 1 else if Utf8.decode s i = (65533, 1) then 0 else (Utf8.decode s i).2 := by
  unfold rlong
  by_cases c : bt s i < 128
  · rw [if_pos c, if_pos c]
  · rw [if_neg c, if_neg c]
    have e := Lib.decode_at s i
    change Utf8.decode s i = Lib.decodeN (s.size - i) (bt s i) (bt s (i + 1)) (bt s (i + 2)) (bt s (i + 3)) at e
    rw [e]
    exact rlong_decodeN _ _ _ _ _ (by omega) (UInt8.toNat_lt _) (UInt8.toNat_lt _) (UInt8.toNat_lt _) (UInt8.toNat_lt _) (by omega)
theorem kindW_lo (c : Nat) (h : c < 128) : kindW (c : Int) 1 = if (decide (c < 32) && !blankN c) || c == 127 then -1 else bk c := by
  unfold kindW bk blankN digitN letterN
  repeat' split
  all_goals (try simp_all)
  all_goals omega
theorem bad_kind (s : ByteArray) (i : Nat) (h : i < s.size) : (badN s i = true ↔ kindP s i = -1) ∧ (badN s i = false → kindP s i = bk (bt s i) ∧ rlong s i = (Utf8.decode s i).2) := by
  have hr := rlong_eq s i h
  unfold badN kindP
  rcases dec_shape s i h with ⟨c, e⟩ | ⟨c, e⟩ | ⟨c, d1, d2, d3, d4, d5, d6⟩
  · rw [if_pos c] at hr
    rw [hr, e]
    have hk := kindW_lo (bt s i) c
    have hb : bk (bt s i) ≠ -1 := by unfold bk; repeat' split
                                     all_goals decide
    dsimp only
    rw [hk]
    constructor
    · constructor
      · intro q
        rw [if_pos (by simpa using q)]
      · intro q
        split at q
        · rename_i z; simpa using z
        · exact absurd q hb
    · intro q
      rw [if_neg (by simpa using q)]
      exact ⟨rfl, rfl⟩
  · rw [if_neg (by omega), if_pos e] at hr
    rw [hr, e]
    constructor
    · simp [kindW]
    · intro q; simp at q
  · rw [if_neg (by omega), if_neg (fun q => by rw [q] at d1; simp at d1)] at hr
    rw [hr, bk_hi _ c]
    have f1 : ((Utf8.decode s i).2 == 0) = false := by simp; omega
    have f2 : (decide (bt s i < 32)) = false := by simp; omega
    have f3 : (bt s i == 127) = false := by simp; omega
    rw [f1, f2, f3]
    have k2 : kindW ((Utf8.decode s i).1 : Int) (Utf8.decode s i).2 = 2 := by
      unfold kindW
      rw [if_neg (by omega), if_neg (by omega), if_neg (by omega)]
      split
      · rw [if_neg (by omega)]
      · rw [if_pos (by omega)]
    rw [k2]
    exact ⟨by simp, fun _ => ⟨rfl, rfl⟩⟩
def rcheck (s : ByteArray) : Nat → Nat → Option Nat
  | 0, _ => none
  | f + 1, i => if i < s.size then (if badN s i = true then some i else rcheck s f (i + rlong s i)) else none
theorem rcheck_end (s : ByteArray) (f i : Nat) (h : ¬ i < s.size) : rcheck s f i = none := by
  cases f with
  | zero => rfl
  | succ f => simp [rcheck, h]
theorem rcheck_bad {s : ByteArray} {f i : Nat} (h : i < s.size) (hb : badN s i = true) : rcheck s (f + 1) i = some i := by rw [rcheck, if_pos h, if_pos hb]
theorem rcheck_next {s : ByteArray} {f i : Nat} (h : i < s.size) (hb : badN s i = false) : rcheck s (f + 1) i = rcheck s f (i + rlong s i) := by rw [rcheck, if_pos h, if_neg (by rw [hb]; decide)]
def runE (s : ByteArray) (k : Int) : Nat → Nat → Nat
  | 0, i => i
  | f + 1, i => if i < s.size ∧ bk (bt s i) = k then runE s k f (i + 1) else i
theorem runE_fuel (s : ByteArray) (k : Int) : ∀ (f g i : Nat), s.size ≤ i + f → s.size ≤ i + g → runE s k f i = runE s k g i
  | 0, 0, i, _, _ => rfl
  | 0, g + 1, i, h, _ => by rw [runE, runE, if_neg (by omega)]
  | f + 1, 0, i, _, h => by rw [runE, runE, if_neg (by omega)]
  | f + 1, g + 1, i, h1, h2 => by
    rw [runE, runE]
    split
    · exact runE_fuel s k f g (i + 1) (by omega) (by omega)
    · rfl
def runEnd (s : ByteArray) (k : Int) (i : Nat) : Nat := runE s k s.size i
theorem runEnd_next {s : ByteArray} {k : Int} {i : Nat} (h : i < s.size) (hk : bk (bt s i) = k) : runEnd s k i = runEnd s k (i + 1) := by
  unfold runEnd
  rw [runE_fuel s k s.size (s.size + 1) i (by omega) (by omega), runE, if_pos ⟨h, hk⟩]
theorem runEnd_stop {s : ByteArray} {k : Int} {i : Nat} (h : ¬ (i < s.size ∧ bk (bt s i) = k)) : runEnd s k i = i := by
  unfold runEnd
  rw [runE_fuel s k s.size (s.size + 1) i (by omega) (by omega), runE, if_neg h]
theorem runEnd_many {s : ByteArray} {k : Int} {i : Nat} : ∀ n, (∀ j, j < n → i + j < s.size ∧ bk (bt s (i + j)) = k) → runEnd s k i = runEnd s k (i + n)
  | 0, _ => rfl
  | n + 1, h => by
    rw [runEnd_many n (fun j hj => h j (by omega))]
    have := h n (by omega)
    rw [runEnd_next this.1 this.2]
    rfl
theorem runEnd_ge (s : ByteArray) (k : Int) : ∀ (f i : Nat), i ≤ runE s k f i ∧ (i ≤ s.size → runE s k f i ≤ s.size)
  | 0, i => ⟨Nat.le_refl _, fun h => h⟩
  | f + 1, i => by
    rw [runE]
    split
    · rename_i c
      have := runEnd_ge s k f (i + 1)
      exact ⟨by omega, fun _ => this.2 (by omega)⟩
    · exact ⟨Nat.le_refl _, fun h => h⟩
theorem runEnd_at (s : ByteArray) (k : Int) : ∀ (n i : Nat), s.size ≤ i + n → ¬ (runEnd s k i < s.size ∧ bk (bt s (runEnd s k i)) = k)
  | 0, i, h => by rw [runEnd_stop (by omega)]; omega
  | n + 1, i, h => by
    by_cases c : i < s.size ∧ bk (bt s i) = k
    · rw [runEnd_next c.1 c.2]; exact runEnd_at s k n (i + 1) (by omega)
    · rw [runEnd_stop c]; exact c
def rparts (s : ByteArray) : Nat → Nat → List Prt → List Prt
  | 0, _, l => l
  | f + 1, i, l =>
    if i < s.size then
      if bk (bt s i) = 0 then rparts s f (i + 1) l
      else if bk (bt s i) = 3 then rparts s f (i + 1) (l ++ [(3, i, i + 1)])
      else rparts s f (runEnd s (bk (bt s i)) i) (l ++ [(bk (bt s i), i, runEnd s (bk (bt s i)) i)])
    else l
theorem rparts_end (s : ByteArray) (f i : Nat) (l : List Prt) (h : ¬ i < s.size) : rparts s f i l = l := by
  cases f with
  | zero => rfl
  | succ f => simp [rparts, h]
theorem split_bad (s : ByteArray) : ∀ (f pos : Nat) (l : List Prt) (a : Int), (∀ i, rcheck s f pos = some i → splitF s f pos l a = .inl i) ∧ (rcheck s f pos = none → ∃ m, splitF s f pos l a = .inr m)
  | 0, pos, l, a => ⟨fun i h => by simp [rcheck] at h, fun _ => ⟨l, rfl⟩⟩
  | f + 1, pos, l, a => by
    by_cases hp : pos < s.size
    · obtain ⟨k1, k2⟩ := bad_kind s pos hp
      cases hb : badN s pos with
      | true =>
        rw [rcheck_bad hp hb, splitF_wrong hp (k1.1 hb)]
        exact ⟨fun i h => by rw [Option.some.injEq] at h; rw [h], fun h => by simp at h⟩
      | false =>
        obtain ⟨q1, q2⟩ := k2 hb
        rw [rcheck_next hp hb, q2]
        have hn : kindP s pos ≠ -1 := fun q => by rw [k1.2 q] at hb; exact absurd hb (by decide)
        rw [splitF, if_pos hp, if_neg hn]
        split
        · exact split_bad s f _ _ _
        · split
          · exact split_bad s f _ _ _
          · exact split_bad s f _ _ _
    · rw [rcheck_end _ _ _ hp, splitF_end _ _ _ _ _ hp]
      exact ⟨fun i h => by simp at h, fun _ => ⟨l, rfl⟩⟩
theorem split_run (s : ByteArray) (k : Int) (hk : k = 1 ∨ k = 2) (l : List Prt) (x : Nat) : ∀ (f pos : Nat), pos ≤ s.size → s.size ≤ pos + f → rcheck s f pos = none →
    ∃ f', s.size ≤ runEnd s k pos + f' ∧ f' ≤ f ∧ rcheck s f' (runEnd s k pos) = none ∧ splitF s f pos (l ++ [(k, x, pos)]) k = splitF s f' (runEnd s k pos) (l ++ [(k, x, runEnd s k pos)]) k
  | 0, pos, h1, h2, hc => by
    rw [runEnd_stop (by omega)]
    exact ⟨0, h2, Nat.le_refl _, hc, rfl⟩
  | f + 1, pos, h1, h2, hc => by
    by_cases c : pos < s.size ∧ bk (bt s pos) = k
    · obtain ⟨hp, ck⟩ := c
      obtain ⟨k1, k2⟩ := bad_kind s pos hp
      cases hb : badN s pos with
      | true => rw [rcheck_bad hp hb] at hc; exact absurd hc (by simp)
      | false =>
        obtain ⟨q1, q2⟩ := k2 hb
        rw [rcheck_next hp hb, q2] at hc
        have hw := wd_pos s pos
        have hl := wd_le s pos hp
        have hm : runEnd s k pos = runEnd s k (pos + (Utf8.decode s pos).2) := by
          apply runEnd_many
          intro j hj
          refine ⟨by omega, ?_⟩
          rcases dec_shape s pos hp with ⟨c, e⟩ | ⟨c, e⟩ | ⟨c, d1, d2, d3, d4, d5, d6⟩
          · rw [e] at hj
            obtain rfl : j = 0 := by simp only at hj; omega
            exact ck
          · rw [e] at hj
            obtain rfl : j = 0 := by simp only at hj; omega
            exact ck
          · by_cases z : j = 0
            · subst z; exact ck
            · rw [bk_hi _ (d5 j (by omega) hj), ← ck, bk_hi _ c]
        rw [hm, splitF_more hp (by rw [q1, ck]; omega) (by rw [q1, ck]; omega) (by rw [q1, ck]; omega) (by rw [q1, ck])]
        obtain ⟨f', g1, g2, g3, g4⟩ := split_run s k hk l x f (pos + (Utf8.decode s pos).2) hl (by omega) hc
        exact ⟨f', g1, by omega, g3, g4⟩
    · rw [runEnd_stop c]
      exact ⟨f + 1, h2, Nat.le_refl _, hc, rfl⟩
theorem split_parts (s : ByteArray) : ∀ (n f g pos : Nat) (l : List Prt) (a : Int), s.size - pos ≤ n → pos ≤ s.size → s.size ≤ pos + f → s.size ≤ pos + g → rcheck s f pos = none →
    (pos < s.size → bk (bt s pos) ≠ 0 → bk (bt s pos) = 3 ∨ bk (bt s pos) ≠ a) → splitF s f pos l a = .inr (rparts s g pos l)
  | 0, f, g, pos, l, a, h0, h1, h2, h3, hc, ha => by
    rw [splitF_end _ _ _ _ _ (by omega), rparts_end _ _ _ _ (by omega)]
  | n + 1, f, g, pos, l, a, h0, h1, h2, h3, hc, ha => by
    by_cases hp : pos < s.size
    · obtain ⟨f, rfl⟩ : ∃ f', f = f' + 1 := ⟨f - 1, by omega⟩
      obtain ⟨g, rfl⟩ : ∃ g', g = g' + 1 := ⟨g - 1, by omega⟩
      obtain ⟨k1, k2⟩ := bad_kind s pos hp
      cases hb : badN s pos with
      | true => rw [rcheck_bad hp hb] at hc; exact absurd hc (by simp)
      | false =>
        obtain ⟨q1, q2⟩ := k2 hb
        have hc0 := hc
        rw [rcheck_next hp hb, q2] at hc
        have hw := wd_pos s pos
        have hl := wd_le s pos hp
        have one : bk (bt s pos) ≠ 2 → (Utf8.decode s pos).2 = 1 := by
          intro z
          rcases dec_shape s pos hp with ⟨c, e⟩ | ⟨c, e⟩ | ⟨c, _⟩
          · rw [e]
          · rw [e]
          · exact absurd (bk_hi _ c) z
        have hn : kindP s pos ≠ -1 := fun q => by rw [k1.2 q] at hb; exact absurd hb (by decide)
        rw [rparts, if_pos hp]
        by_cases z0 : bk (bt s pos) = 0
        · rw [if_pos z0, splitF_blank hp (by rw [q1, z0])]
          rw [one (by omega)] at hc hl ⊢
          exact split_parts s n f g (pos + 1) l 0 (by omega) hl (by omega) (by omega) hc (fun _ z => .inr z)
        · rw [if_neg z0]
          by_cases z3 : bk (bt s pos) = 3
          · rw [if_pos z3, splitF_new hp hn (by rw [q1]; exact z0) (.inl (by rw [q1, z3])), q1, z3]
            rw [one (by omega)] at hc hl ⊢
            refine split_parts s n f g (pos + 1) _ 3 (by omega) hl (by omega) (by omega) hc (fun _ z => ?_)
            by_cases y : bk (bt s (pos + 1)) = 3
            · exact .inl y
            · exact .inr y
          · rw [if_neg z3, splitF_new hp hn (by rw [q1]; exact z0) (by rw [q1]; exact ha hp z0), q1]
            have hk : bk (bt s pos) = 1 ∨ bk (bt s pos) = 2 := by
              have := bk_range (bt s pos)
              omega
            obtain ⟨k, ek⟩ : ∃ k, bk (bt s pos) = k := ⟨_, rfl⟩
            rw [ek] at hk z0 z3 ⊢
            have hm : runEnd s k pos = runEnd s k (pos + (Utf8.decode s pos).2) := by
              apply runEnd_many
              intro j hj
              refine ⟨by omega, ?_⟩
              rcases dec_shape s pos hp with ⟨c, e⟩ | ⟨c, e⟩ | ⟨c, d1, d2, d3, d4, d5, d6⟩
              · rw [e] at hj
                obtain rfl : j = 0 := by simp only at hj; omega
                exact ek
              · rw [e] at hj
                obtain rfl : j = 0 := by simp only at hj; omega
                exact ek
              · by_cases z : j = 0
                · subst z; exact ek
                · rw [bk_hi _ (d5 j (by omega) hj), ← ek, bk_hi _ c]
            rw [hm]
            obtain ⟨f', g1, g2, g3, g4⟩ := split_run s k hk l pos f (pos + (Utf8.decode s pos).2) hl (by omega) hc
            rw [g4]
            have ge := runEnd_ge s k s.size (pos + (Utf8.decode s pos).2)
            change _ ≤ runEnd s k _ ∧ (_ → runEnd s k _ ≤ _) at ge
            have hat := runEnd_at s k s.size (pos + (Utf8.decode s pos).2) (by omega)
            exact split_parts s n f' g _ _ k (by omega) (ge.2 hl) g1 (by omega) g3 (fun y1 y2 => .inr (fun y3 => hat ⟨y1, y3⟩))
    · rw [splitF_end _ _ _ _ _ hp, rparts_end _ _ _ _ hp]
theorem splitB_bad {s : ByteArray} {i : Nat} (h : rcheck s s.size 0 = some i) : splitB s = .inl i := (split_bad s s.size 0 [] 0).1 i h
theorem splitB_good {s : ByteArray} (h : rcheck s s.size 0 = none) : splitB s = .inr (rparts s s.size 0 []) :=
  split_parts s s.size s.size s.size 0 [] 0 (by omega) (by omega) (by omega) (by omega) h (fun _ z => .inr z)
def Cov (s : ByteArray) : Nat → List Prt → Nat → Prop
 | at_, [], to => at_ ≤ to ∧ to ≤ s.size ∧ ∀ j, at_ ≤ j → j < to → blankN (bt s j) = true
 | at_, p :: l, to => at_ ≤ p.2.1 ∧ p.2.1 < p.2.2 ∧ p.2.2 ≤ s.size ∧ (∀ j, at_ ≤ j → j < p.2.1 → blankN (bt s j) = true) ∧ Cov s p.2.2 l to
theorem Cov_snoc (s : ByteArray) (k : Int) (x e to : Nat) : ∀ (l : List Prt) (a : Nat), Cov s a (l ++ [(k, x, e)]) to ↔ Cov s a l x ∧ x < e ∧ e ≤ s.size ∧ Cov s e [] to
 | [], a => by
  simp only [List.nil_append, Cov]
  exact ⟨fun ⟨h1, h2, h3, h4, h5⟩ => ⟨⟨h1, by omega, h4⟩, h2, h3, h5⟩, fun ⟨⟨h1, _, h4⟩, h2, h3, h5⟩ => ⟨h1, h2, h3, h4, h5⟩⟩
 | p :: l, a => by
  simp only [List.cons_append, Cov]
  rw [Cov_snoc s k x e to l p.2.2]
  simp only [Cov]
  exact ⟨fun ⟨h1, h2, h3, h4, h5, h6, h7, h8⟩ => ⟨⟨h1, h2, h3, h4, h5⟩, h6, h7, h8⟩, fun ⟨⟨h1, h2, h3, h4, h5⟩, h6, h7, h8⟩ => ⟨h1, h2, h3, h4, h5, h6, h7, h8⟩⟩
theorem Cov_more (s : ByteArray) (to n : Nat) (hn : n ≤ s.size) (hl : to ≤ n) (hb : ∀ j, to ≤ j → j < n → blankN (bt s j) = true) : ∀ (l : List Prt) (a : Nat), Cov s a l to → Cov s a l n
 | [], a, ⟨h1, h2, h3⟩ => ⟨by omega, hn, fun j h4 h5 => by
   by_cases c : j < to
   ·exact h3 j h4 c
   ·exact hb j (by omega) h5⟩
 | p :: l, a, ⟨h1, h2, h3, h4, h5⟩ => ⟨h1, h2, h3, h4, Cov_more s to n hn hl hb l p.2.2 h5⟩
theorem Cov_length (s : ByteArray) : ∀ (l : List Prt) (a to : Nat), Cov s a l to → l.length + a ≤ to
 | [], a, to, ⟨h1, _, _⟩ => by simp; exact h1
 | p :: l, a, to, ⟨h1, h2, h3, h4, h5⟩ => by
  have := Cov_length s l _ _ h5
  simp only [List.length_cons]; omega
theorem Cov_to (s : ByteArray) : ∀ (l : List Prt) (a to : Nat), Cov s a l to → to ≤ s.size
 | [], a, to, ⟨h1, h2, _⟩ => h2
 | p :: l, a, to, ⟨h1, h2, h3, h4, h5⟩ => Cov_to s l _ _ h5
def Lst (l : List Prt) (pos : Nat) (a : Int) : Prop := a = 0 ∨ ∃ l' k x, l = l' ++ [(k, x, pos)]
theorem blank_one (s : ByteArray) (pos : Nat) (h : pos < s.size) (hk : kindP s pos = 0) : blankN (bt s pos) = true ∧ (Utf8.decode s pos).2 = 1 := by
 obtain ⟨k1, k2⟩ := bad_kind s pos h
 cases hb : badN s pos with
 | true => rw [k1.1 hb] at hk; exact absurd hk (by decide)
 | false =>
  have q := (k2 hb).1
  rw [hk] at q
  refine ⟨(bk_blank _).2 q.symm, ?_⟩
  rcases dec_shape s pos h with ⟨c, e⟩ | ⟨c, e⟩ | ⟨c, _⟩
  ·rw [e]
  ·rw [e]
  ·rw [bk_hi _ c] at q; exact absurd q (by decide)
theorem Cov_blank {s : ByteArray} {pos : Nat} {l : List Prt} (h : pos < s.size) (hk : kindP s pos = 0) (hC : Cov s 0 l pos) : Cov s 0 l (pos + (Utf8.decode s pos).2) := by
 obtain ⟨b1, b2⟩ := blank_one s pos h hk
 rw [b2]
 refine Cov_more s pos (pos + 1) (by omega) (by omega) (fun j h1 h2 => ?_) l 0 hC
 obtain rfl : j = pos := by omega
 exact b1
theorem Cov_new {s : ByteArray} {pos : Nat} {l : List Prt} (k : Int) (h : pos < s.size) (hC : Cov s 0 l pos) : Cov s 0 (l ++ [(k, pos, pos + (Utf8.decode s pos).2)]) (pos + (Utf8.decode s pos).2) := by
 have hw := wd_pos s pos
 have hl := wd_le s pos h
 exact (Cov_snoc s k pos _ _ l 0).2 ⟨hC, by omega, hl, Nat.le_refl _, hl, fun j h1 h2 => by omega⟩
theorem Cov_ext {s : ByteArray} {pos : Nat} {l : List Prt} {k : Int} {x : Nat} (h : pos < s.size) (hC : Cov s 0 (l ++ [(k, x, pos)]) pos) : Cov s 0 (l ++ [(k, x, pos + (Utf8.decode s pos).2)]) (pos + (Utf8.decode s pos).2) := by
 have hw := wd_pos s pos
 have hl := wd_le s pos h
 obtain ⟨h1, h2, h3, h4⟩ := (Cov_snoc s k x pos pos l 0).1 hC
 exact (Cov_snoc s k x _ _ l 0).2 ⟨h1, by omega, hl, Nat.le_refl _, hl, fun j h1 h2 => by omega⟩
theorem split_cov (s : ByteArray) : ∀ (f pos : Nat) (l : List Prt) (a : Int) (m : List Prt), s.size ≤ pos + f → Cov s 0 l pos → Lst l pos a → splitF s f pos l a = .inr m → Cov s 0 m s.size
 | 0, pos, l, a, m, hf, hC, hL, h => by
  simp only [splitF, Sum.inr.injEq] at h; subst h
  obtain rfl : pos = s.size := by have := Cov_to s _ _ _ hC; omega
  exact hC
 | f + 1, pos, l, a, m, hf, hC, hL, h => by
  by_cases hp : pos < s.size
  ·have hw := wd_pos s pos
   by_cases c1 : kindP s pos = -1
   ·rw [splitF_wrong hp c1] at h; exact absurd h (by simp)
   ·by_cases c0 : kindP s pos = 0
    ·rw [splitF_blank hp c0] at h
     exact split_cov s f _ _ _ _ (by omega) (Cov_blank hp c0 hC) (.inl rfl) h
    ·by_cases cn : kindP s pos = 3 ∨ kindP s pos ≠ a
     ·rw [splitF_new hp c1 c0 cn] at h
      exact split_cov s f _ _ _ _ (by omega) (Cov_new _ hp hC) (.inr ⟨_, _, _, rfl⟩) h
     ·rcases hL with hL | ⟨l', k, x, rfl⟩
      ·exfalso; apply cn; right; rw [hL]; exact c0
      ·rw [splitF_more hp c1 c0 (fun q => cn (.inl q)) (by
        by_cases z : kindP s pos = a
        ·exact z
        ·exact absurd (.inr z) cn)] at h
       exact split_cov s f _ _ _ _ (by omega) (Cov_ext hp hC) (.inr ⟨_, _, _, rfl⟩) h
  ·rw [splitF_end _ _ _ _ _ hp] at h
   simp only [Sum.inr.injEq] at h; subst h
   obtain rfl : pos = s.size := by have := Cov_to s _ _ _ hC; omega
   exact hC
theorem splitB_cov {s : ByteArray} {m : List Prt} (h : splitB s = .inr m) : Cov s 0 m s.size :=
 split_cov s s.size 0 [] 0 m (by omega) ⟨Nat.le_refl _, Nat.zero_le _, fun j h1 h2 => by omega⟩ (.inl rfl) h
theorem bt_beyond (a : ByteArray) (i : Nat) (h : ¬ i < a.size) : bt a i = 0 := by
 unfold bt
 show (a.data[i]!).toNat = 0
 rw [getElem!_neg a.data i h]
 rfl
def findF (P : ByteArray → Bool) : Nat → List ByteArray → Int
 | _, [] => -1
 | i, t :: l => if P t = true then (i : Int) else findF P (i + 1) l
theorem findF_step {P : ByteArray → Bool} {l : List ByteArray} {i : Nat} {t : ByteArray} (h : l[i]? = some t) : findF P i (l.drop i) = if P t = true then (i : Int) else findF P (i + 1) (l.drop (i + 1)) := by
 obtain ⟨hl, he⟩ := List.getElem?_eq_some_iff.1 h
 rw [List.drop_eq_getElem_cons hl, he]
 rfl
theorem findF_end {P : ByteArray → Bool} {l : List ByteArray} {i : Nat} (h : ¬ i < l.length) : findF P i (l.drop i) = -1 := by
 rw [List.drop_of_length_le (by omega)]; rfl
def sameB (a b : ByteArray) : Bool := decide (lowB a = lowB b)
def knownB (s : ByteArray) (l : List ByteArray) : Int := findF (fun t => sameB s t) 0 l
end Go.Proofs.YtaoocecipacnhaaDoor
namespace Go.Proofs.YtaoocecipacnhaaDoor
open Go.RowKit
def Buf (w : World) (g : Nat) (l : List UInt8) : Prop := g < w.heap.size ∧ ∀ j c, l[j]? = some c → w.cell? ⟨g, j, none⟩ = some (.int .u8 (c.toNat : Int)) ∧ w.frozen? ⟨g, j, none⟩ = false
theorem Buf.keep {w w1 : World} {g : Nat} {l : List UInt8} (h : Buf w g l) (hb : w1.heap[g]? = w.heap[g]?) (hz : w.heap.size ≤ w1.heap.size) : Buf w1 g l :=
  ⟨Nat.lt_of_lt_of_le h.1 hz, fun j c hc => ⟨(World.cell?_of_block (a := ⟨g, j, none⟩) hb).trans (h.2 j c hc).1, (World.frozen?_of_block (a := ⟨g, j, none⟩) hb).trans (h.2 j c hc).2⟩⟩
theorem addr_ne' {b i j : Nat} (h : i ≠ j) : (⟨b, i, none⟩ : Addr) ≠ ⟨b, j, none⟩ := fun e => h (by cases e; rfl)
theorem Buf.set {w : World} {g : Nat} {l : List UInt8} (h : Buf w g l) {pos : Nat} {c : UInt8} (d : UInt8) (hc : l[pos]? = some c) : Buf (w.setCell ⟨g, pos, none⟩ (.int .u8 (d.toNat : Int))) g (l.set pos d) := by
  refine ⟨by simpa [World.setCell] using h.1, fun j x hx => ?_⟩
  rw [List.getElem?_set] at hx
  by_cases e : pos = j
  · subst e
    rw [if_pos rfl, if_pos (List.getElem?_eq_some_iff.1 hc).1] at hx
    simp only [Option.some.injEq] at hx
    subst hx
    exact ⟨World.cell?_setCell_same _ _ _ (h.2 pos c hc).1, by simpa using (h.2 pos c hc).2⟩
  · rw [if_neg e] at hx
    exact ⟨(World.cell?_setCell_other _ _ _ _ (addr_ne' e)).trans (h.2 j x hx).1, by simpa using (h.2 j x hx).2⟩
theorem bytesRow_get (s : ByteArray) (cap j : Nat) (c : UInt8) (h : s.data.toList[j]? = some c) : (bytesRow s cap)[j]? = some (.int .u8 (c.toNat : Int)) ∧ j < (bytesRow s cap).size := by
  have hj : j < s.data.size := by have := (List.getElem?_eq_some_iff.1 h).1; simpa using this
  have e := bytesRow_at s cap j hj
  have hc : s.data[j] = c := by have := (List.getElem?_eq_some_iff.1 h).2; simpa using this
  rw [hc] at e
  exact ⟨e, (Array.getElem?_eq_some_iff.1 e).1⟩
theorem Buf.new (w : World) (s : ByteArray) (cap : Nat) (t : TypeId) : Buf (w.drew.alloc (.cells (bytesRow s cap) t ((bytesRow s cap).size, (bytesRow s cap).size + 1))) w.heap.size s.data.toList := by
  refine ⟨by simp, fun j c hc => ?_⟩
  obtain ⟨e, hj⟩ := bytesRow_get s cap j c hc
  refine ⟨(World.cell?_alloc_mark w.drew _ t _ j).trans e, (World.frozen?_alloc_mark w.drew _ t _ _ j).trans ?_⟩
  simp; omega
theorem iterPos_eq {w : World} {k : Nat} {s : ByteArray} {p : Nat} (h : w.heap[k]? = some (.stringIter s p)) : w.iterPos k = p := by simp [World.iterPos, h]
theorem lower_any (s : ByteArray) (hs : s.size ≤ maxLen) (w : World) :
    Calls Tryd.prog 49 #[.string s] w fun e w' => e = zr (.string (lowB s)) ∧ Below w.heap.size w w' := by
  unfold maxLen at hs
  have hcv : ∀ w0 : World, (convert 9 62 (.string s)).run Tryd.prog w0 = _ := fun w0 => run_bytes_of_string (P := Tryd.prog) w0 9 62 5 s Tryd.underlying9 Tryd.underlying62 Tryd.underlying5
  obtain ⟨cap, hcap⟩ : ∃ cap, cap = grownCap w s.size 0 5 := ⟨_, rfl⟩
  obtain ⟨W0, hW0⟩ : ∃ W0, W0 = w.drew.alloc (.cells (bytesRow s cap) 5 ((bytesRow s cap).size, (bytesRow s cap).size + 1)) := ⟨_, rfl⟩
  have hz0 : W0.heap.size = w.heap.size + 1 := by rw [hW0]; simp
  have B0 : Below w.heap.size w W0 := by rw [hW0]; exact (Below.refl _ _).drew.alloc (by simp) _
  have F0 : Buf W0 w.heap.size s.data.toList := by rw [hW0]; exact Buf.new w s cap 5
  have hcv0 := hcv w
  rw [← hcap, ← hW0] at hcv0
  clear hcv hW0 hcap
  go_enter Tryd.func49, Tryd.ntmps49
  go_wp2_with fail
  go_loopw [] (fun wr => ∃ pos : Nat, pos ≤ s.size ∧ wr.heap[w.heap.size + 1]? = some (.stringIter s pos) ∧ Buf wr w.heap.size (lowTo s pos) ∧ Below w.heap.size w wr) (fun wr => s.size - wr.iterPos (w.heap.size + 1))
  case atStart =>
    refine ⟨0, Nat.zero_le _, ?_, ?_, ?_⟩
    · have := World.iter_heap W0 s 0
      rw [hz0] at this
      exact this
    · rw [lowTo_zero]
      exact F0.keep (Below.heap_alloc _ _ _ (by omega)) (by simp [World.iter])
    · exact B0.alloc (by omega) _
  case round =>
    obtain ⟨pos, hle, hit, F, B⟩ := hrel
    have hpos0 := iterPos_eq hit
    clear B0 F0 hcv0 hz0
    by_cases hp : pos < s.size
    · have hnx : ∀ ty, (Instr.next (.pointer (some ⟨w.heap.size + 1, 0, none⟩)) true ty).run Tryd.prog wr = _ := fun ty => Lib.run_next_any_at wr (w.heap.size + 1) s pos ty hit hp
      have hwd := wd_pos s pos
      have hwl := wd_le s pos hp
      have hit2 := Lib.iterAt_heap wr (w.heap.size + 1) s pos (pos + (Utf8.decode s pos).2) hit
      have B2 := Lib.below_iterAt B (k := w.heap.size + 1) (by omega) s (pos + (Utf8.decode s pos).2)
      have F2 : Buf (wr.iterAt (w.heap.size + 1) s (pos + (Utf8.decode s pos).2)) w.heap.size (lowTo s pos) := F.keep (Lib.iterAt_other _ _ _ _ _ (by omega)) (by rw [Lib.iterAt_size]; exact Nat.le_refl _)
      clear F B hit
      obtain ⟨R, hR⟩ : ∃ R : Int, ((Utf8.decode s pos).1 : Int) = R := ⟨_, rfl⟩
      obtain ⟨W1, hW1⟩ : ∃ W1, W1 = wr.iterAt (w.heap.size + 1) s (pos + (Utf8.decode s pos).2) := ⟨_, rfl⟩
      rw [hR] at hnx
      rw [← hW1] at hnx hit2 B2 F2
      have R0 : 0 ≤ R := by omega
      have R1 : R ≤ 2147483647 := by have := decode_le s pos; omega
      clear hW1
      have HI : Hid (W1.heap[w.heap.size + 1]? = some (.stringIter s (pos + (Utf8.decode s pos).2))) := hit2
      have HB : Hid (Below w.heap.size w W1) := B2
      have HF : Hid (Buf W1 w.heap.size (lowTo s pos)) := F2
      clear hit2 B2 F2
      by_cases hAZ : 65 ≤ R ∧ R ≤ 90
      · obtain ⟨c1, c2⟩ := hAZ
        obtain ⟨q1, q2, q3, q4, q5⟩ := lowTo_put s pos hp (by omega)
        have hcell : W1.cell? ⟨w.heap.size, pos, none⟩ = some (.int .u8 R) := by rw [(HF.out.2 pos _ q2).1, ← hR, q5]
        have hfz : W1.frozen? ⟨w.heap.size, pos, none⟩ = false := (HF.out.2 pos _ q2).2
        have HS : Hid (Buf (W1.setCell ⟨w.heap.size, pos, none⟩ (.int .u8 (R + 32))) w.heap.size (lowTo s (pos + (Utf8.decode s pos).2))) := by
          show Buf _ _ _
          rw [q3]
          have := HF.out.set (s[pos]'hp + 32) q2
          rw [q4] at this
          rw [← hR]
          exact this
        have hpi : (pos : Int) < (s.size : Int) := by omega
        clear hR q1 q2 q3 q4 q5 HF
        go_wp2_with fail
        go_roundw
        case rel =>
          refine ⟨pos + (Utf8.decode s pos).2, hwl, ?_, HS.out, HB.out.setCell (Nat.le_refl _) _⟩
          rw [Below.heap_setCell _ _ _ _ (by simp)]; exact HI.out
        case measure =>
          rw [hpos0, iterPos_eq (p := pos + (Utf8.decode s pos).2) (by rw [Below.heap_setCell _ _ _ _ (by simp)]; exact HI.out)]
          omega
      · have HS : Hid (Buf W1 w.heap.size (lowTo s (pos + (Utf8.decode s pos).2))) := by
          show Buf _ _ _
          rw [lowTo_skip s pos hp (by omega)]
          exact HF.out
        clear hR HF
        go_wp2_with fail
        all_goals first
          | (exfalso; omega)
          | (go_roundw
             case rel => exact ⟨pos + (Utf8.decode s pos).2, hwl, HI.out, HS.out, HB.out⟩
             case measure =>
               rw [hpos0, iterPos_eq HI.out]
               omega)
    · have hnx : ∀ ty, (Instr.next (.pointer (some ⟨w.heap.size + 1, 0, none⟩)) true ty).run Tryd.prog wr = _ := fun ty => Lib.run_next_end_at wr (w.heap.size + 1) s pos ty hit hp
      have hcb := run_convert_bytes_back (P := Tryd.prog) wr 62 9 5 ⟨w.heap.size, 0, none⟩ cap (lowTo s pos) Tryd.underlying62 Tryd.underlying5 Tryd.underlying9 (fun j hj => by
        have := (F.2 j _ (List.getElem?_eq_getElem hj)).1
        by_cases z : j = 0
        · subst z; simpa [Addr.add] using this
        · simpa [Addr.add, z] using this)
      rw [lowTo_length, lowTo_end s pos hp] at hcb
      have HB : Hid (Below w.heap.size w wr) := B
      clear F B hit
      go_wp2_with fail
      go_ret
      exact ⟨rfl, HB.out⟩
theorem toList_eq (a b : ByteArray) : (a.toList == b.toList) = decide (a = b) := by
  rw [Lib.toList_data, Lib.toList_data, Bool.eq_iff_iff, beq_iff_eq, decide_eq_true_eq]
  constructor
  · intro h; cases a; cases b; exact congrArg ByteArray.mk (Array.toList_inj.1 h)
  · intro h; rw [h]
theorem ret_bool {a b : Bool} (h : a = b) : Ending.returned (.bool a) = zr (.bool b) := by rw [h]
end Go.Proofs.YtaoocecipacnhaaDoor
