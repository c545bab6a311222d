import Derived.Test.YtcgcljfdfimfgaaDoorR10
import Derived.Laws.Runes
import Derived.Laws.IdiomStrings
/- Contracts: when.TextAt and the reference's. -/
namespace Go.Proofs.YtcgcljfdfimfgaaDoor
open Go.RowKit
set_option linter.unusedVariables false

/-- can it be a time? -/
def okAt (s k : Int) : Prop := 0 ≤ s ∧ s ≤ 86400 ∧ (k = 119 ∨ k = 115 ∨ k = 117)
instance (s k : Int) : Decidable (okAt s k) := by unfold okAt; infer_instance
/-- hours, minutes and, unless they are 0, seconds. -/
def hmsT (h m s : Int) : ByteArray := if s = 0 then (digB h ++ ⟨#[58]⟩) ++ Clk.twoB m else ((digB h ++ ⟨#[58]⟩) ++ Clk.twoB m) ++ (⟨#[58]⟩ ++ Clk.twoB s)
def atT (s k : Int) : ByteArray := if k = 119 then hmsT (s / 3600) (s / 60 % 60) (s % 60) else hmsT (s / 3600) (s / 60 % 60) (s % 60) ++ ⟨#[UInt8.ofNat k.toNat]⟩

/-- a block that holds a time, as the call made it. -/
def AtS (w : World) (b : Nat) (s k : Int) (W : World) : Prop :=
  b < W.heap.size ∧ W.cell? ⟨b, 0, none⟩ = some (.int .i64 s) ∧ W.cell? ⟨b, 1, none⟩ = some (.int .u8 k) ∧ Below w.heap.size w W
theorem AtS.below {w W W1 : World} {b : Nat} {s k : Int} (h : AtS w b s k W) (hb : Below W.heap.size W W1) : AtS w b s k W1 :=
  ⟨Nat.lt_of_lt_of_le h.1 hb.size, (hb.cell (p := ⟨b, 0, none⟩) h.1).trans h.2.1, (hb.cell (p := ⟨b, 1, none⟩) h.1).trans h.2.2.1, h.2.2.2.trans (hb.mono h.2.2.2.size)⟩
theorem AtS.drew {w W : World} {b : Nat} {s k : Int} (h : AtS w b s k W) : AtS w b s k W.drew := ⟨h.1, h.2.1, h.2.2.1, h.2.2.2.drew⟩
theorem AtS.new (w : World) (s k : Int) (t : TypeId) : AtS w w.heap.size s k (w.alloc (.cells #[.int .i64 s, .int .u8 k] t)) :=
  ⟨by simp, by rw [World.cell?_alloc_at _ _ _ _ rfl]; rfl, by rw [World.cell?_alloc_at _ _ _ _ rfl]; rfl, (Below.refl _ _).alloc (Nat.le_refl _) _⟩

theorem enc_s : Utf8.encode 115 = ⟨#[115]⟩ := by decide +kernel
theorem enc_u : Utf8.encode 117 = ⟨#[117]⟩ := by decide +kernel
set_option maxRecDepth 100000 in
set_option maxHeartbeats 8000000 in
theorem tat_lo (s k : Int) (h : s < 0) (w : World) :
    Calls Tryd.prog 66 #[.agg #[.int .i64 s, .int .u8 k]] w fun e w' => e = .returned (.tuple #[.string ⟨#[]⟩, .int .i64 1]) ∧ Below w.heap.size w w' := by
  go_enter Tryd.func66, Tryd.ntmps66
  go_wp2
  go_ret2
  exact ⟨rfl, (by repeat' (first | assumption | exact Below.refl _ _ | exact Nat.le_refl _ | refine Below.alloc ?_ ?_ _ | (simp; done) | (simp; omega) | omega))⟩

set_option maxRecDepth 100000 in
set_option maxHeartbeats 8000000 in
theorem tat_hi (s k : Int) (h : 86400 < s) (w : World) :
    Calls Tryd.prog 66 #[.agg #[.int .i64 s, .int .u8 k]] w fun e w' => e = .returned (.tuple #[.string ⟨#[]⟩, .int .i64 1]) ∧ Below w.heap.size w w' := by
  have h2 : ¬ s < 0 := by omega
  go_enter Tryd.func66, Tryd.ntmps66
  go_wp2
  go_ret2
  exact ⟨rfl, (by repeat' (first | assumption | exact Below.refl _ _ | exact Nat.le_refl _ | refine Below.alloc ?_ ?_ _ | (simp; done) | (simp; omega) | omega))⟩

set_option maxRecDepth 100000 in
set_option maxHeartbeats 8000000 in
theorem tat_wz (s h m sc us : Int) (HT MT ST : ByteArray) (z1 : HT.size ≤ 21) (z2 : MT.size ≤ 21) (z3 : ST.size ≤ 21) (s0 : 0 ≤ s) (s1 : s ≤ 86400) (hz : sc = 0) 
    (PA : Hid (∀ w : World, Calls Tryd.prog 71 #[.int .i64 (s * 1000000)] w fun e w' => e = .returned (.tuple #[.int .i64 h, .int .i64 m, .int .i64 sc, .int .i64 us, .int .i64 0]) ∧ w' = w))
    (FI : Hid (∀ w : World, Calls Tryd.prog 72 #[.int .i64 h, .int .i64 10] w fun e w' => e = .returned (.string HT) ∧ w' = w))
    (T1 : Hid (∀ w : World, Clk.Tab w → Calls Tryd.prog 73 #[.int .i64 m] w fun e w' => e = .returned (.string MT) ∧ Below w.heap.size w w'))
    (w : World) (hT : Hid (Clk.Tab w)) :
    Calls Tryd.prog 66 #[.agg #[.int .i64 s, .int .u8 119]] w fun e w' => e = .returned (.tuple #[.string ((HT ++ ⟨#[58]⟩) ++ MT), .int .i64 0]) ∧ Below w.heap.size w w' := by
  have h1 : ¬ s < 0 := by omega
  have h2 : ¬ 86400 < s := by omega
  subst hz
  have S0 : Hid (AtS w w.heap.size s 119 (w.alloc (.cells #[.int .i64 s, .int .u8 119] 40))) := AtS.new w _ _ _
  go_enter Tryd.func66, Tryd.ntmps66
  go_wp2_with fail
  refine (PA.out _).mono ?_
  rintro e v1 ⟨rfl, rfl⟩
  go_wp2_with fail
  refine (FI.out _).mono ?_
  rintro e v2 ⟨rfl, rfl⟩
  go_wp2_with fail
  refine (T1.out _ (hT.out.below S0.out.2.2.2)).mono ?_
  rintro e w1 ⟨rfl, hb⟩
  have S1 : Hid (AtS w w.heap.size s 119 w1) := S0.out.below hb
  clear hb S0
  obtain ⟨o1, o2, o3, o4⟩ := id S1.out
  clear o4
  go_wp2
  go_ret2
  exact ⟨rfl, S1.out.2.2.2⟩

set_option maxRecDepth 100000 in
set_option maxHeartbeats 8000000 in
theorem tat_wn (s h m sc us : Int) (HT MT ST : ByteArray) (z1 : HT.size ≤ 21) (z2 : MT.size ≤ 21) (z3 : ST.size ≤ 21) (s0 : 0 ≤ s) (s1 : s ≤ 86400) (hz : sc ≠ 0) 
    (PA : Hid (∀ w : World, Calls Tryd.prog 71 #[.int .i64 (s * 1000000)] w fun e w' => e = .returned (.tuple #[.int .i64 h, .int .i64 m, .int .i64 sc, .int .i64 us, .int .i64 0]) ∧ w' = w))
    (FI : Hid (∀ w : World, Calls Tryd.prog 72 #[.int .i64 h, .int .i64 10] w fun e w' => e = .returned (.string HT) ∧ w' = w))
    (T1 : Hid (∀ w : World, Clk.Tab w → Calls Tryd.prog 73 #[.int .i64 m] w fun e w' => e = .returned (.string MT) ∧ Below w.heap.size w w'))
    (T2 : Hid (∀ w : World, Clk.Tab w → Calls Tryd.prog 73 #[.int .i64 sc] w fun e w' => e = .returned (.string ST) ∧ Below w.heap.size w w'))
    (w : World) (hT : Hid (Clk.Tab w)) :
    Calls Tryd.prog 66 #[.agg #[.int .i64 s, .int .u8 119]] w fun e w' => e = .returned (.tuple #[.string (((HT ++ ⟨#[58]⟩) ++ MT) ++ (⟨#[58]⟩ ++ ST)), .int .i64 0]) ∧ Below w.heap.size w w' := by
  have h1 : ¬ s < 0 := by omega
  have h2 : ¬ 86400 < s := by omega
  have hz1 : (sc != 0) = true := bne_iff_ne.2 hz
  have S0 : Hid (AtS w w.heap.size s 119 (w.alloc (.cells #[.int .i64 s, .int .u8 119] 40))) := AtS.new w _ _ _
  go_enter Tryd.func66, Tryd.ntmps66
  go_wp2_with fail
  refine (PA.out _).mono ?_
  rintro e v1 ⟨rfl, rfl⟩
  go_wp2_with fail
  refine (FI.out _).mono ?_
  rintro e v2 ⟨rfl, rfl⟩
  go_wp2_with fail
  refine (T1.out _ (hT.out.below S0.out.2.2.2)).mono ?_
  rintro e w1 ⟨rfl, hb⟩
  have S1 : Hid (AtS w w.heap.size s 119 w1) := S0.out.below hb
  clear hb S0
  go_wp2_with fail
  refine (T2.out _ (hT.out.below S1.out.2.2.2)).mono ?_
  rintro e w2 ⟨rfl, hb⟩
  have S2 : Hid (AtS w w.heap.size s 119 w2) := S1.out.below hb
  clear hb S1
  obtain ⟨o1, o2, o3, o4⟩ := id S2.out
  clear o4
  go_wp2
  go_ret2
  exact ⟨rfl, S2.out.2.2.2⟩

set_option maxRecDepth 100000 in
set_option maxHeartbeats 8000000 in
theorem tat_sz (s h m sc us : Int) (HT MT ST : ByteArray) (z1 : HT.size ≤ 21) (z2 : MT.size ≤ 21) (z3 : ST.size ≤ 21) (s0 : 0 ≤ s) (s1 : s ≤ 86400) (hz : sc = 0) 
    (PA : Hid (∀ w : World, Calls Tryd.prog 71 #[.int .i64 (s * 1000000)] w fun e w' => e = .returned (.tuple #[.int .i64 h, .int .i64 m, .int .i64 sc, .int .i64 us, .int .i64 0]) ∧ w' = w))
    (FI : Hid (∀ w : World, Calls Tryd.prog 72 #[.int .i64 h, .int .i64 10] w fun e w' => e = .returned (.string HT) ∧ w' = w))
    (T1 : Hid (∀ w : World, Clk.Tab w → Calls Tryd.prog 73 #[.int .i64 m] w fun e w' => e = .returned (.string MT) ∧ Below w.heap.size w w'))
    (w : World) (hT : Hid (Clk.Tab w)) :
    Calls Tryd.prog 66 #[.agg #[.int .i64 s, .int .u8 115]] w fun e w' => e = .returned (.tuple #[.string (((HT ++ ⟨#[58]⟩) ++ MT) ++ ⟨#[115]⟩), .int .i64 0]) ∧ Below w.heap.size w w' := by
  have h1 : ¬ s < 0 := by omega
  have h2 : ¬ 86400 < s := by omega
  have en := enc_s
  subst hz
  have S0 : Hid (AtS w w.heap.size s 115 (w.alloc (.cells #[.int .i64 s, .int .u8 115] 40))) := AtS.new w _ _ _
  go_enter Tryd.func66, Tryd.ntmps66
  go_wp2_with fail
  refine (PA.out _).mono ?_
  rintro e v1 ⟨rfl, rfl⟩
  go_wp2_with fail
  refine (FI.out _).mono ?_
  rintro e v2 ⟨rfl, rfl⟩
  go_wp2_with fail
  refine (T1.out _ (hT.out.below S0.out.2.2.2)).mono ?_
  rintro e w1 ⟨rfl, hb⟩
  have S1 : Hid (AtS w w.heap.size s 115 w1) := S0.out.below hb
  clear hb S0
  obtain ⟨o1, o2, o3, o4⟩ := id S1.out
  clear o4
  go_wp2
  go_ret2
  exact ⟨rfl, S1.out.2.2.2⟩

set_option maxRecDepth 100000 in
set_option maxHeartbeats 8000000 in
theorem tat_sn (s h m sc us : Int) (HT MT ST : ByteArray) (z1 : HT.size ≤ 21) (z2 : MT.size ≤ 21) (z3 : ST.size ≤ 21) (s0 : 0 ≤ s) (s1 : s ≤ 86400) (hz : sc ≠ 0) 
    (PA : Hid (∀ w : World, Calls Tryd.prog 71 #[.int .i64 (s * 1000000)] w fun e w' => e = .returned (.tuple #[.int .i64 h, .int .i64 m, .int .i64 sc, .int .i64 us, .int .i64 0]) ∧ w' = w))
    (FI : Hid (∀ w : World, Calls Tryd.prog 72 #[.int .i64 h, .int .i64 10] w fun e w' => e = .returned (.string HT) ∧ w' = w))
    (T1 : Hid (∀ w : World, Clk.Tab w → Calls Tryd.prog 73 #[.int .i64 m] w fun e w' => e = .returned (.string MT) ∧ Below w.heap.size w w'))
    (T2 : Hid (∀ w : World, Clk.Tab w → Calls Tryd.prog 73 #[.int .i64 sc] w fun e w' => e = .returned (.string ST) ∧ Below w.heap.size w w'))
    (w : World) (hT : Hid (Clk.Tab w)) :
    Calls Tryd.prog 66 #[.agg #[.int .i64 s, .int .u8 115]] w fun e w' => e = .returned (.tuple #[.string ((((HT ++ ⟨#[58]⟩) ++ MT) ++ (⟨#[58]⟩ ++ ST)) ++ ⟨#[115]⟩), .int .i64 0]) ∧ Below w.heap.size w w' := by
  have h1 : ¬ s < 0 := by omega
  have h2 : ¬ 86400 < s := by omega
  have en := enc_s
  have hz1 : (sc != 0) = true := bne_iff_ne.2 hz
  have S0 : Hid (AtS w w.heap.size s 115 (w.alloc (.cells #[.int .i64 s, .int .u8 115] 40))) := AtS.new w _ _ _
  go_enter Tryd.func66, Tryd.ntmps66
  go_wp2_with fail
  refine (PA.out _).mono ?_
  rintro e v1 ⟨rfl, rfl⟩
  go_wp2_with fail
  refine (FI.out _).mono ?_
  rintro e v2 ⟨rfl, rfl⟩
  go_wp2_with fail
  refine (T1.out _ (hT.out.below S0.out.2.2.2)).mono ?_
  rintro e w1 ⟨rfl, hb⟩
  have S1 : Hid (AtS w w.heap.size s 115 w1) := S0.out.below hb
  clear hb S0
  go_wp2_with fail
  refine (T2.out _ (hT.out.below S1.out.2.2.2)).mono ?_
  rintro e w2 ⟨rfl, hb⟩
  have S2 : Hid (AtS w w.heap.size s 115 w2) := S1.out.below hb
  clear hb S1
  obtain ⟨o1, o2, o3, o4⟩ := id S2.out
  clear o4
  go_wp2
  go_ret2
  exact ⟨rfl, S2.out.2.2.2⟩

set_option maxRecDepth 100000 in
set_option maxHeartbeats 8000000 in
theorem tat_uz (s h m sc us : Int) (HT MT ST : ByteArray) (z1 : HT.size ≤ 21) (z2 : MT.size ≤ 21) (z3 : ST.size ≤ 21) (s0 : 0 ≤ s) (s1 : s ≤ 86400) (hz : sc = 0) 
    (PA : Hid (∀ w : World, Calls Tryd.prog 71 #[.int .i64 (s * 1000000)] w fun e w' => e = .returned (.tuple #[.int .i64 h, .int .i64 m, .int .i64 sc, .int .i64 us, .int .i64 0]) ∧ w' = w))
    (FI : Hid (∀ w : World, Calls Tryd.prog 72 #[.int .i64 h, .int .i64 10] w fun e w' => e = .returned (.string HT) ∧ w' = w))
    (T1 : Hid (∀ w : World, Clk.Tab w → Calls Tryd.prog 73 #[.int .i64 m] w fun e w' => e = .returned (.string MT) ∧ Below w.heap.size w w'))
    (w : World) (hT : Hid (Clk.Tab w)) :
    Calls Tryd.prog 66 #[.agg #[.int .i64 s, .int .u8 117]] w fun e w' => e = .returned (.tuple #[.string (((HT ++ ⟨#[58]⟩) ++ MT) ++ ⟨#[117]⟩), .int .i64 0]) ∧ Below w.heap.size w w' := by
  have h1 : ¬ s < 0 := by omega
  have h2 : ¬ 86400 < s := by omega
  have en := enc_u
  subst hz
  have S0 : Hid (AtS w w.heap.size s 117 (w.alloc (.cells #[.int .i64 s, .int .u8 117] 40))) := AtS.new w _ _ _
  go_enter Tryd.func66, Tryd.ntmps66
  go_wp2_with fail
  refine (PA.out _).mono ?_
  rintro e v1 ⟨rfl, rfl⟩
  go_wp2_with fail
  refine (FI.out _).mono ?_
  rintro e v2 ⟨rfl, rfl⟩
  go_wp2_with fail
  refine (T1.out _ (hT.out.below S0.out.2.2.2)).mono ?_
  rintro e w1 ⟨rfl, hb⟩
  have S1 : Hid (AtS w w.heap.size s 117 w1) := S0.out.below hb
  clear hb S0
  obtain ⟨o1, o2, o3, o4⟩ := id S1.out
  clear o4
  go_wp2
  go_ret2
  exact ⟨rfl, S1.out.2.2.2⟩

set_option maxRecDepth 100000 in
set_option maxHeartbeats 8000000 in
theorem tat_un (s h m sc us : Int) (HT MT ST : ByteArray) (z1 : HT.size ≤ 21) (z2 : MT.size ≤ 21) (z3 : ST.size ≤ 21) (s0 : 0 ≤ s) (s1 : s ≤ 86400) (hz : sc ≠ 0) 
    (PA : Hid (∀ w : World, Calls Tryd.prog 71 #[.int .i64 (s * 1000000)] w fun e w' => e = .returned (.tuple #[.int .i64 h, .int .i64 m, .int .i64 sc, .int .i64 us, .int .i64 0]) ∧ w' = w))
    (FI : Hid (∀ w : World, Calls Tryd.prog 72 #[.int .i64 h, .int .i64 10] w fun e w' => e = .returned (.string HT) ∧ w' = w))
    (T1 : Hid (∀ w : World, Clk.Tab w → Calls Tryd.prog 73 #[.int .i64 m] w fun e w' => e = .returned (.string MT) ∧ Below w.heap.size w w'))
    (T2 : Hid (∀ w : World, Clk.Tab w → Calls Tryd.prog 73 #[.int .i64 sc] w fun e w' => e = .returned (.string ST) ∧ Below w.heap.size w w'))
    (w : World) (hT : Hid (Clk.Tab w)) :
    Calls Tryd.prog 66 #[.agg #[.int .i64 s, .int .u8 117]] w fun e w' => e = .returned (.tuple #[.string ((((HT ++ ⟨#[58]⟩) ++ MT) ++ (⟨#[58]⟩ ++ ST)) ++ ⟨#[117]⟩), .int .i64 0]) ∧ Below w.heap.size w w' := by
  have h1 : ¬ s < 0 := by omega
  have h2 : ¬ 86400 < s := by omega
  have en := enc_u
  have hz1 : (sc != 0) = true := bne_iff_ne.2 hz
  have S0 : Hid (AtS w w.heap.size s 117 (w.alloc (.cells #[.int .i64 s, .int .u8 117] 40))) := AtS.new w _ _ _
  go_enter Tryd.func66, Tryd.ntmps66
  go_wp2_with fail
  refine (PA.out _).mono ?_
  rintro e v1 ⟨rfl, rfl⟩
  go_wp2_with fail
  refine (FI.out _).mono ?_
  rintro e v2 ⟨rfl, rfl⟩
  go_wp2_with fail
  refine (T1.out _ (hT.out.below S0.out.2.2.2)).mono ?_
  rintro e w1 ⟨rfl, hb⟩
  have S1 : Hid (AtS w w.heap.size s 117 w1) := S0.out.below hb
  clear hb S0
  go_wp2_with fail
  refine (T2.out _ (hT.out.below S1.out.2.2.2)).mono ?_
  rintro e w2 ⟨rfl, hb⟩
  have S2 : Hid (AtS w w.heap.size s 117 w2) := S1.out.below hb
  clear hb S1
  obtain ⟨o1, o2, o3, o4⟩ := id S2.out
  clear o4
  go_wp2
  go_ret2
  exact ⟨rfl, S2.out.2.2.2⟩

set_option maxRecDepth 100000 in
set_option maxHeartbeats 8000000 in
theorem tat_xz (s k h m sc us : Int) (HT MT ST : ByteArray) (z1 : HT.size ≤ 21) (z2 : MT.size ≤ 21) (z3 : ST.size ≤ 21) (s0 : 0 ≤ s) (s1 : s ≤ 86400) (hz : sc = 0) (k0 : k ≠ 119) (k1 : k ≠ 115) (k2 : k ≠ 117)
    (PA : Hid (∀ w : World, Calls Tryd.prog 71 #[.int .i64 (s * 1000000)] w fun e w' => e = .returned (.tuple #[.int .i64 h, .int .i64 m, .int .i64 sc, .int .i64 us, .int .i64 0]) ∧ w' = w))
    (FI : Hid (∀ w : World, Calls Tryd.prog 72 #[.int .i64 h, .int .i64 10] w fun e w' => e = .returned (.string HT) ∧ w' = w))
    (T1 : Hid (∀ w : World, Clk.Tab w → Calls Tryd.prog 73 #[.int .i64 m] w fun e w' => e = .returned (.string MT) ∧ Below w.heap.size w w'))
    (w : World) (hT : Hid (Clk.Tab w)) :
    Calls Tryd.prog 66 #[.agg #[.int .i64 s, .int .u8 k]] w fun e w' => e = .returned (.tuple #[.string ⟨#[]⟩, .int .i64 1]) ∧ Below w.heap.size w w' := by
  have h1 : ¬ s < 0 := by omega
  have h2 : ¬ 86400 < s := by omega
  have q0 : (k == 119) = false := beq_eq_false_iff_ne.2 k0
  have q1 : (k == 115) = false := beq_eq_false_iff_ne.2 k1
  have q2 : (k == 117) = false := beq_eq_false_iff_ne.2 k2
  subst hz
  have S0 : Hid (AtS w w.heap.size s k (w.alloc (.cells #[.int .i64 s, .int .u8 k] 40))) := AtS.new w _ _ _
  go_enter Tryd.func66, Tryd.ntmps66
  go_wp2_with fail
  refine (PA.out _).mono ?_
  rintro e v1 ⟨rfl, rfl⟩
  go_wp2_with fail
  refine (FI.out _).mono ?_
  rintro e v2 ⟨rfl, rfl⟩
  go_wp2_with fail
  refine (T1.out _ (hT.out.below S0.out.2.2.2)).mono ?_
  rintro e w1 ⟨rfl, hb⟩
  have S1 : Hid (AtS w w.heap.size s k w1) := S0.out.below hb
  clear hb S0
  obtain ⟨o1, o2, o3, o4⟩ := id S1.out
  clear o4
  go_wp2
  go_ret2
  exact ⟨rfl, S1.out.2.2.2⟩

set_option maxRecDepth 100000 in
set_option maxHeartbeats 8000000 in
theorem tat_xn (s k h m sc us : Int) (HT MT ST : ByteArray) (z1 : HT.size ≤ 21) (z2 : MT.size ≤ 21) (z3 : ST.size ≤ 21) (s0 : 0 ≤ s) (s1 : s ≤ 86400) (hz : sc ≠ 0) (k0 : k ≠ 119) (k1 : k ≠ 115) (k2 : k ≠ 117)
    (PA : Hid (∀ w : World, Calls Tryd.prog 71 #[.int .i64 (s * 1000000)] w fun e w' => e = .returned (.tuple #[.int .i64 h, .int .i64 m, .int .i64 sc, .int .i64 us, .int .i64 0]) ∧ w' = w))
    (FI : Hid (∀ w : World, Calls Tryd.prog 72 #[.int .i64 h, .int .i64 10] w fun e w' => e = .returned (.string HT) ∧ w' = w))
    (T1 : Hid (∀ w : World, Clk.Tab w → Calls Tryd.prog 73 #[.int .i64 m] w fun e w' => e = .returned (.string MT) ∧ Below w.heap.size w w'))
    (T2 : Hid (∀ w : World, Clk.Tab w → Calls Tryd.prog 73 #[.int .i64 sc] w fun e w' => e = .returned (.string ST) ∧ Below w.heap.size w w'))
    (w : World) (hT : Hid (Clk.Tab w)) :
    Calls Tryd.prog 66 #[.agg #[.int .i64 s, .int .u8 k]] w fun e w' => e = .returned (.tuple #[.string ⟨#[]⟩, .int .i64 1]) ∧ Below w.heap.size w w' := by
  have h1 : ¬ s < 0 := by omega
  have h2 : ¬ 86400 < s := by omega
  have q0 : (k == 119) = false := beq_eq_false_iff_ne.2 k0
  have q1 : (k == 115) = false := beq_eq_false_iff_ne.2 k1
  have q2 : (k == 117) = false := beq_eq_false_iff_ne.2 k2
  have hz1 : (sc != 0) = true := bne_iff_ne.2 hz
  have S0 : Hid (AtS w w.heap.size s k (w.alloc (.cells #[.int .i64 s, .int .u8 k] 40))) := AtS.new w _ _ _
  go_enter Tryd.func66, Tryd.ntmps66
  go_wp2_with fail
  refine (PA.out _).mono ?_
  rintro e v1 ⟨rfl, rfl⟩
  go_wp2_with fail
  refine (FI.out _).mono ?_
  rintro e v2 ⟨rfl, rfl⟩
  go_wp2_with fail
  refine (T1.out _ (hT.out.below S0.out.2.2.2)).mono ?_
  rintro e w1 ⟨rfl, hb⟩
  have S1 : Hid (AtS w w.heap.size s k w1) := S0.out.below hb
  clear hb S0
  go_wp2_with fail
  refine (T2.out _ (hT.out.below S1.out.2.2.2)).mono ?_
  rintro e w2 ⟨rfl, hb⟩
  have S2 : Hid (AtS w w.heap.size s k w2) := S1.out.below hb
  clear hb S1
  obtain ⟨o1, o2, o3, o4⟩ := id S2.out
  clear o4
  go_wp2
  go_ret2
  exact ⟨rfl, S2.out.2.2.2⟩

end Go.Proofs.YtcgcljfdfimfgaaDoor
/- when.TextAt whole. -/
namespace Go.Proofs.YtcgcljfdfimfgaaDoor.Fn
open Go.RowKit
set_option linter.unusedVariables false

theorem tat_yes (s k : Int) (h : okAt s k) (w : World) (hT : Clk.Tab w) :
    Calls Tryd.prog 66 #[.agg #[.int .i64 s, .int .u8 k]] w fun e w' => e = .returned (.tuple #[.string (atT s k), .int .i64 0]) ∧ Below w.heap.size w w' := by
  obtain ⟨s0, s1, hk⟩ := h
  have PA : Hid (∀ w : World, Calls Tryd.prog 71 #[.int .i64 (s * 1000000)] w fun e w' => e = .returned (.tuple #[.int .i64 (s / 3600), .int .i64 (s / 60 % 60), .int .i64 (s % 60), .int .i64 0, .int .i64 0]) ∧ w' = w) := fun w => by
    have t0 : 0 ≤ s * 1000000 := by omega
    refine Clk.parts_in (s * 1000000) (s / 3600) (s / 60 % 60) (s % 60) 0 (s / 60) s t0 (by omega) ?_ ?_ ?_ ?_ ?_ ?_ (by omega) (by omega) (by omega) (by omega) s0 (by omega) w
    · rw [Int.tdiv_eq_ediv_of_nonneg t0]; omega
    · rw [Int.tdiv_eq_ediv_of_nonneg t0]; omega
    · rw [Int.tmod_eq_emod_of_nonneg (by omega)]
    · rw [Int.tdiv_eq_ediv_of_nonneg t0]; omega
    · rw [Int.tmod_eq_emod_of_nonneg s0]
    · rw [Int.tmod_eq_emod_of_nonneg t0]; omega
  have FI := format_small (s / 3600) (by omega) (by omega)
  have T1 := Clk.two_any (s / 60 % 60) (by omega) (by omega)
  have T2 := Clk.two_any (s % 60) (by omega) (by omega)
  have z1 := digB_size (s / 3600) (by omega) (by omega)
  have z2 := Clk.twoB_size (n := s / 60 % 60) (by omega) (by omega)
  have z3 := Clk.twoB_size (n := s % 60) (by omega) (by omega)
  unfold atT hmsT
  by_cases hz : s % 60 = 0
  · simp only [if_pos hz]
    rcases hk with rfl | rfl | rfl
    · exact tat_wz s _ _ _ _ _ _ _ z1 z2 z3 s0 s1 hz PA FI T1 w hT
    · exact tat_sz s _ _ _ _ _ _ _ z1 z2 z3 s0 s1 hz PA FI T1 w hT
    · exact tat_uz s _ _ _ _ _ _ _ z1 z2 z3 s0 s1 hz PA FI T1 w hT
  · simp only [if_neg hz]
    rcases hk with rfl | rfl | rfl
    · exact tat_wn s _ _ _ _ _ _ _ z1 z2 z3 s0 s1 hz PA FI T1 T2 w hT
    · exact tat_sn s _ _ _ _ _ _ _ z1 z2 z3 s0 s1 hz PA FI T1 T2 w hT
    · exact tat_un s _ _ _ _ _ _ _ z1 z2 z3 s0 s1 hz PA FI T1 T2 w hT

theorem tat_no (s k : Int) (h : ¬ okAt s k) (w : World) (hT : Clk.Tab w) :
    Calls Tryd.prog 66 #[.agg #[.int .i64 s, .int .u8 k]] w fun e w' => e = .returned (.tuple #[.string ⟨#[]⟩, .int .i64 1]) ∧ Below w.heap.size w w' := by
  by_cases a : s < 0
  · exact tat_lo s k a w
  · by_cases b : 86400 < s
    · exact tat_hi s k b w
    · have s0 : 0 ≤ s := by omega
      have s1 : s ≤ 86400 := by omega
      have hk : k ≠ 119 ∧ k ≠ 115 ∧ k ≠ 117 := by unfold okAt at h; omega
      have PA : Hid (∀ w : World, Calls Tryd.prog 71 #[.int .i64 (s * 1000000)] w fun e w' => e = .returned (.tuple #[.int .i64 (s / 3600), .int .i64 (s / 60 % 60), .int .i64 (s % 60), .int .i64 0, .int .i64 0]) ∧ w' = w) := fun w => by
        have t0 : 0 ≤ s * 1000000 := by omega
        refine Clk.parts_in (s * 1000000) (s / 3600) (s / 60 % 60) (s % 60) 0 (s / 60) s t0 (by omega) ?_ ?_ ?_ ?_ ?_ ?_ (by omega) (by omega) (by omega) (by omega) s0 (by omega) w
        · rw [Int.tdiv_eq_ediv_of_nonneg t0]; omega
        · rw [Int.tdiv_eq_ediv_of_nonneg t0]; omega
        · rw [Int.tmod_eq_emod_of_nonneg (by omega)]
        · rw [Int.tdiv_eq_ediv_of_nonneg t0]; omega
        · rw [Int.tmod_eq_emod_of_nonneg s0]
        · rw [Int.tmod_eq_emod_of_nonneg t0]; omega
      have FI := format_small (s / 3600) (by omega) (by omega)
      have T1 := Clk.two_any (s / 60 % 60) (by omega) (by omega)
      have T2 := Clk.two_any (s % 60) (by omega) (by omega)
      have z1 := digB_size (s / 3600) (by omega) (by omega)
      have z2 := Clk.twoB_size (n := s / 60 % 60) (by omega) (by omega)
      have z3 := Clk.twoB_size (n := s % 60) (by omega) (by omega)
      by_cases hz : s % 60 = 0
      · exact tat_xz s k _ _ _ _ _ _ _ z1 z2 z3 s0 s1 hz hk.1 hk.2.1 hk.2.2 PA FI T1 w hT
      · exact tat_xn s k _ _ _ _ _ _ _ z1 z2 z3 s0 s1 hz hk.1 hk.2.1 hk.2.2 PA FI T1 T2 w hT

end Go.Proofs.YtcgcljfdfimfgaaDoor.Fn
/- Halves and feet; foot.isHalf, canBe. -/
namespace Go.Proofs.YtcgcljfdfimfgaaDoor.Fn
open Go.RowKit
set_option linter.unusedVariables false

structure Hf where
  (m k d n s z v : Int)
  (t : ByteArray)
structure Ft where
  (h : Bool)
  (fr off : Int)
  (A B : Hf)
structure Tr where
  (t o : Int)
  (d : Bool)
  (a : ByteArray)

/-- the cells of a half, of a foot, of a tran. -/
def hL (a : Hf) : List Value := [.int .i64 a.m, .int .i64 a.k, .int .i64 a.d, .int .i64 a.n, .int .i64 a.s, .int .u8 a.z, .int .i64 a.v, .string a.t]
def fL (f : Ft) : List Value := [.bool f.h, .int .i64 f.fr, .int .i64 f.off, .int .i64 f.A.m, .int .i64 f.A.k, .int .i64 f.A.d, .int .i64 f.A.n, .int .i64 f.A.s, .int .u8 f.A.z, .int .i64 f.A.v, .string f.A.t, .int .i64 f.B.m, .int .i64 f.B.k, .int .i64 f.B.d, .int .i64 f.B.n, .int .i64 f.B.s, .int .u8 f.B.z, .int .i64 f.B.v, .string f.B.t]
def tL (x : Tr) : List Value := [.int .i64 x.t, .int .i64 x.o, .bool x.d, .string x.a]

/-- block b holds these cells, and may be written. -/
def Bx (W : World) (b : Nat) (l : List Value) : Prop := b < W.heap.size ∧ ∀ i v, l[i]? = some v → W.cell? ⟨b, i, none⟩ = some v ∧ W.frozen? ⟨b, i, none⟩ = false
theorem Bx.below {W W' : World} {b : Nat} {l : List Value} (h : Bx W b l) (hb : Below W.heap.size W W') : Bx W' b l :=
  ⟨Nat.lt_of_lt_of_le h.1 hb.size, fun i v e => ⟨(hb.cell (p := ⟨b, i, none⟩) h.1).trans (h.2 i v e).1, (hb.frozen (p := ⟨b, i, none⟩) h.1).trans (h.2 i v e).2⟩⟩
theorem Bx.alloc {W : World} {b : Nat} {l : List Value} (h : Bx W b l) (o : Obj) : Bx (W.alloc o) b l := h.below ((Below.refl _ W).alloc (Nat.le_refl _) o)
theorem Bx.new (w : World) (l : List Value) (t : TypeId) : Bx (w.alloc (.cells l.toArray t)) w.heap.size l :=
  ⟨by simp, fun i v e => ⟨by rw [World.cell?_alloc_at _ _ _ _ rfl]; simpa using e, by rw [World.frozen?_alloc_at _ _ _ _ rfl]⟩⟩
theorem Bx.newAt (w : World) (l : List Value) (t : TypeId) (b : Nat) (hb : w.heap.size = b) : Bx (w.alloc (.cells l.toArray t)) b l := hb ▸ Bx.new w l t
theorem Bx.c {W : World} {b : Nat} {l : List Value} (h : Bx W b l) (i : Nat) {v : Value} (e : l[i]? = some v) : W.cell? ⟨b, i, none⟩ = some v := (h.2 i v e).1
theorem Bx.f {W : World} {b : Nat} {l : List Value} (h : Bx W b l) (i : Nat) {v : Value} (e : l[i]? = some v) : W.frozen? ⟨b, i, none⟩ = false := (h.2 i v e).2

/-- can a half be? -/
def okH (a : Hf) : Bool := decide (dyA a.m a.k a.d a.n ∧ okAt a.s a.z ∧ 0 ≤ a.v ∧ a.v ≤ 7200)
def okF (f : Ft) : Bool := f.h && decide (-50400 ≤ f.off) && decide (f.off ≤ 50400) && okH f.A && okH f.B && far f.A.m f.B.m

set_option maxRecDepth 100000 in
set_option maxHeartbeats 8000000 in
theorem half_run (a : Hf) (V E1 E2 : Int) (TT : ByteArray) (h1 : E1 = 0 ∨ E1 = 1) (h2 : E2 = 0 ∨ E2 = 1)
    (DY : Hid (∀ w : World, Cvl.Lens w → Calls Tryd.prog 65 #[.int .i64 2000, .int .i64 a.m, .agg #[.int .i64 a.k, .int .i64 a.d, .int .i64 a.n]] w fun e w' => e = .returned (.tuple #[.int .i64 V, .int .i64 E1]) ∧ Below w.heap.size w w'))
    (TA : Hid (∀ w : World, Clk.Tab w → Calls Tryd.prog 66 #[.agg #[.int .i64 a.s, .int .u8 a.z]] w fun e w' => e = .returned (.tuple #[.string TT, .int .i64 E2]) ∧ Below w.heap.size w w'))
    (w : World) (hL0 : Hid (Cvl.Lens w)) (hT0 : Hid (Clk.Tab w)) :
    Calls Tryd.prog 60 #[.agg #[.int .i64 a.m, .int .i64 a.k, .int .i64 a.d, .int .i64 a.n, .int .i64 a.s, .int .u8 a.z, .int .i64 a.v, .string a.t]] w fun e w' => e = .returned (.bool (decide (E1 = 0 ∧ E2 = 0 ∧ 0 ≤ a.v ∧ a.v ≤ 7200))) ∧ Below w.heap.size w w' := by
  have HB : Hid (Below w.heap.size w (w.alloc (.cells #[.int .i64 a.m, .int .i64 a.k, .int .i64 a.d, .int .i64 a.n, .int .i64 a.s, .int .u8 a.z, .int .i64 a.v, .string a.t] 42))) := (Below.refl _ _).alloc (Nat.le_refl _) _
  have X0 : Hid (Bx (w.alloc (.cells #[.int .i64 a.m, .int .i64 a.k, .int .i64 a.d, .int .i64 a.n, .int .i64 a.s, .int .u8 a.z, .int .i64 a.v, .string a.t] 42)) w.heap.size (hL a)) := Bx.new w (hL a) _
  have L1 : Hid (Cvl.Lens (w.alloc (.cells #[.int .i64 a.m, .int .i64 a.k, .int .i64 a.d, .int .i64 a.n, .int .i64 a.s, .int .u8 a.z, .int .i64 a.v, .string a.t] 42))) := Lens_below hL0.out HB.out (Lens_lt hL0.out)
  have T1 : Hid (Clk.Tab (w.alloc (.cells #[.int .i64 a.m, .int .i64 a.k, .int .i64 a.d, .int .i64 a.n, .int .i64 a.s, .int .u8 a.z, .int .i64 a.v, .string a.t] 42))) := hT0.out.below HB.out
  go_enter Tryd.func60, Tryd.ntmps60
  go_wp2_with fail
  refine (DY.out _ L1.out).mono ?_
  rintro e w1 ⟨rfl, hb⟩
  have X1 : Hid (Bx w1 w.heap.size (hL a)) := X0.out.below hb
  have HB1 : Hid (Below w.heap.size w w1) := HB.out.trans (hb.mono HB.out.size)
  have T2 : Hid (Clk.Tab w1) := T1.out.below hb
  clear hb X0 HB L1 T1
  have c4 : w1.cell? ⟨w.heap.size, 4, none⟩ = some (.int .i64 a.s) := X1.out.c 4 rfl
  have c5 : w1.cell? ⟨w.heap.size, 5, none⟩ = some (.int .u8 a.z) := X1.out.c 5 rfl
  go_wp2_with fail
  refine (TA.out _ T2.out).mono ?_
  rintro e w2 ⟨rfl, hb⟩
  have c6 : w2.cell? ⟨w.heap.size, 6, none⟩ = some (.int .i64 a.v) := (X1.out.below hb).c 6 rfl
  have HB2 : Hid (Below w.heap.size w w2) := HB1.out.trans (hb.mono HB1.out.size)
  clear hb X1 HB1 T2 c4 c5
  rcases h1 with rfl | rfl
  · rcases h2 with rfl | rfl
    · go_wp2
      all_goals (go_ret; refine ⟨Cvl.ret_bool ?_, HB2.out⟩)
      all_goals (clear DY TA; first | (simp; done) | (simp; omega))
    · go_wp2
      go_ret
      exact ⟨rfl, HB2.out⟩
  · go_wp2
    go_ret
    exact ⟨rfl, HB2.out⟩

theorem half_any (a : Hf) (w : World) (hL0 : Cvl.Lens w) (hT0 : Clk.Tab w) :
    Calls Tryd.prog 60 #[.agg #[.int .i64 a.m, .int .i64 a.k, .int .i64 a.d, .int .i64 a.n, .int .i64 a.s, .int .u8 a.z, .int .i64 a.v, .string a.t]] w fun e w' => e = .returned (.bool (okH a)) ∧ Below w.heap.size w w' := by
  by_cases h1 : dyA a.m a.k a.d a.n
  · have DY : Hid (∀ w : World, Cvl.Lens w → Calls Tryd.prog 65 #[.int .i64 2000, .int .i64 a.m, .agg #[.int .i64 a.k, .int .i64 a.d, .int .i64 a.n]] w fun e w' => e = .returned (.tuple #[.int .i64 (dyV 2000 a.m a.k a.d a.n), .int .i64 0]) ∧ Below w.heap.size w w') := fun w hw => by
      have R := day_any 2000 a.m a.k a.d a.n w hw
      rw [show dyE 2000 a.m a.k a.d a.n = 0 by unfold dyE; rw [if_pos h1, if_pos (by unfold dyY; omega)]] at R
      exact R
    by_cases h2 : okAt a.s a.z
    · have R := half_run a _ 0 0 _ (.inl rfl) (.inl rfl) DY (fun w hw => tat_yes a.s a.z h2 w hw) w hL0 hT0
      rw [show okH a = decide ((0 : Int) = 0 ∧ (0 : Int) = 0 ∧ 0 ≤ a.v ∧ a.v ≤ 7200) by unfold okH; simp [h1, h2]]
      exact R
    · have R := half_run a _ 0 1 _ (.inl rfl) (.inr rfl) DY (fun w hw => tat_no a.s a.z h2 w hw) w hL0 hT0
      rw [show okH a = decide ((0 : Int) = 0 ∧ (1 : Int) = 0 ∧ 0 ≤ a.v ∧ a.v ≤ 7200) by unfold okH; simp [h2]]
      exact R
  · have DY : Hid (∀ w : World, Cvl.Lens w → Calls Tryd.prog 65 #[.int .i64 2000, .int .i64 a.m, .agg #[.int .i64 a.k, .int .i64 a.d, .int .i64 a.n]] w fun e w' => e = .returned (.tuple #[.int .i64 (dyV 2000 a.m a.k a.d a.n), .int .i64 1]) ∧ Below w.heap.size w w') := fun w hw => by
      have R := day_any 2000 a.m a.k a.d a.n w hw
      rw [show dyE 2000 a.m a.k a.d a.n = 1 by unfold dyE; rw [if_neg h1]] at R
      exact R
    have e0 : okH a = false := by unfold okH; simp [h1]
    by_cases h2 : okAt a.s a.z
    · have R := half_run a _ 1 0 _ (.inr rfl) (.inl rfl) DY (fun w hw => tat_yes a.s a.z h2 w hw) w hL0 hT0
      rw [e0]; simpa using R
    · have R := half_run a _ 1 1 _ (.inr rfl) (.inr rfl) DY (fun w hw => tat_no a.s a.z h2 w hw) w hL0 hT0
      rw [e0]; simpa using R

theorem okH_of {a : Hf} (h : okH a = true) : dyA a.m a.k a.d a.n ∧ okAt a.s a.z ∧ 0 ≤ a.v ∧ a.v ≤ 7200 := of_decide_eq_true h

set_option maxRecDepth 100000 in
set_option maxHeartbeats 8000000 in
theorem can_run (f : Ft) (bA bB c : Bool)
    (IA : Hid (∀ w : World, Cvl.Lens w → Clk.Tab w → Calls Tryd.prog 60 #[.agg #[.int .i64 f.A.m, .int .i64 f.A.k, .int .i64 f.A.d, .int .i64 f.A.n, .int .i64 f.A.s, .int .u8 f.A.z, .int .i64 f.A.v, .string f.A.t]] w fun e w' => e = .returned (.bool bA) ∧ Below w.heap.size w w'))
    (IB : Hid (∀ w : World, Cvl.Lens w → Clk.Tab w → Calls Tryd.prog 60 #[.agg #[.int .i64 f.B.m, .int .i64 f.B.k, .int .i64 f.B.d, .int .i64 f.B.n, .int .i64 f.B.s, .int .u8 f.B.z, .int .i64 f.B.v, .string f.B.t]] w fun e w' => e = .returned (.bool bB) ∧ Below w.heap.size w w'))
    (AP : Hid (bA = true → bB = true → ∀ w : World, Calls Tryd.prog 61 #[.int .i64 f.A.m, .int .i64 f.B.m] w fun e w' => e = .returned (.bool c) ∧ w' = w))
    (w : World) (hL0 : Hid (Cvl.Lens w)) (hT0 : Hid (Clk.Tab w)) :
    Calls Tryd.prog 53 #[.agg #[.bool f.h, .int .i64 f.fr, .int .i64 f.off, .int .i64 f.A.m, .int .i64 f.A.k, .int .i64 f.A.d, .int .i64 f.A.n, .int .i64 f.A.s, .int .u8 f.A.z, .int .i64 f.A.v, .string f.A.t, .int .i64 f.B.m, .int .i64 f.B.k, .int .i64 f.B.d, .int .i64 f.B.n, .int .i64 f.B.s, .int .u8 f.B.z, .int .i64 f.B.v, .string f.B.t]] w fun e w' => e = .returned (.bool (f.h && decide (-50400 ≤ f.off) && decide (f.off ≤ 50400) && bA && bB && c)) ∧ Below w.heap.size w w' := by
  have HB : Hid (Below w.heap.size w (w.alloc (.cells #[.bool f.h, .int .i64 f.fr, .int .i64 f.off, .int .i64 f.A.m, .int .i64 f.A.k, .int .i64 f.A.d, .int .i64 f.A.n, .int .i64 f.A.s, .int .u8 f.A.z, .int .i64 f.A.v, .string f.A.t, .int .i64 f.B.m, .int .i64 f.B.k, .int .i64 f.B.d, .int .i64 f.B.n, .int .i64 f.B.s, .int .u8 f.B.z, .int .i64 f.B.v, .string f.B.t] 44))) := (Below.refl _ _).alloc (Nat.le_refl _) _
  have X0 : Hid (Bx (w.alloc (.cells #[.bool f.h, .int .i64 f.fr, .int .i64 f.off, .int .i64 f.A.m, .int .i64 f.A.k, .int .i64 f.A.d, .int .i64 f.A.n, .int .i64 f.A.s, .int .u8 f.A.z, .int .i64 f.A.v, .string f.A.t, .int .i64 f.B.m, .int .i64 f.B.k, .int .i64 f.B.d, .int .i64 f.B.n, .int .i64 f.B.s, .int .u8 f.B.z, .int .i64 f.B.v, .string f.B.t] 44)) w.heap.size (fL f)) := Bx.new w (fL f) _
  have L1 : Hid (Cvl.Lens (w.alloc (.cells #[.bool f.h, .int .i64 f.fr, .int .i64 f.off, .int .i64 f.A.m, .int .i64 f.A.k, .int .i64 f.A.d, .int .i64 f.A.n, .int .i64 f.A.s, .int .u8 f.A.z, .int .i64 f.A.v, .string f.A.t, .int .i64 f.B.m, .int .i64 f.B.k, .int .i64 f.B.d, .int .i64 f.B.n, .int .i64 f.B.s, .int .u8 f.B.z, .int .i64 f.B.v, .string f.B.t] 44))) := Lens_below hL0.out HB.out (Lens_lt hL0.out)
  have T1 : Hid (Clk.Tab (w.alloc (.cells #[.bool f.h, .int .i64 f.fr, .int .i64 f.off, .int .i64 f.A.m, .int .i64 f.A.k, .int .i64 f.A.d, .int .i64 f.A.n, .int .i64 f.A.s, .int .u8 f.A.z, .int .i64 f.A.v, .string f.A.t, .int .i64 f.B.m, .int .i64 f.B.k, .int .i64 f.B.d, .int .i64 f.B.n, .int .i64 f.B.s, .int .u8 f.B.z, .int .i64 f.B.v, .string f.B.t] 44))) := hT0.out.below HB.out
  cases hh : f.h
  · rw [hh] at HB X0 L1 T1
    go_enter Tryd.func53, Tryd.ntmps53
    go_wp2
    go_ret
    exact ⟨rfl, HB.out⟩
  rw [hh] at HB X0 L1 T1
  by_cases o1 : -50400 ≤ f.off
  case neg =>
    have e1 : decide (-50400 ≤ f.off) = false := decide_eq_false o1
    rw [e1]
    go_enter Tryd.func53, Tryd.ntmps53
    go_wp2
    go_ret
    exact ⟨rfl, HB.out⟩
  by_cases o2 : f.off ≤ 50400
  case neg =>
    have e1 : decide (f.off ≤ 50400) = false := decide_eq_false o2
    rw [e1, decide_eq_true o1]
    go_enter Tryd.func53, Tryd.ntmps53
    go_wp2
    go_ret
    exact ⟨rfl, HB.out⟩
  rw [decide_eq_true o1, decide_eq_true o2]
  go_enter Tryd.func53, Tryd.ntmps53
  go_wp2_with fail
  refine (IA.out _ L1.out T1.out).mono ?_
  rintro e w1 ⟨rfl, hb⟩
  have X1 : Hid (Bx w1 w.heap.size (fL f)) := by have := X0.out.below hb; exact this
  have HB1 : Hid (Below w.heap.size w w1) := HB.out.trans (hb.mono HB.out.size)
  have T2 : Hid (Clk.Tab w1) := T1.out.below hb
  have L2 : Hid (Cvl.Lens w1) := Lens_below hL0.out HB1.out (Lens_lt hL0.out)
  clear hb X0 HB L1 T1 IA
  cases bA
  · go_wp2
    go_ret
    exact ⟨rfl, HB1.out⟩
  have c11 : w1.cell? ⟨w.heap.size, 11, none⟩ = some (.int .i64 f.B.m) := X1.out.c 11 rfl
  have c12 : w1.cell? ⟨w.heap.size, 12, none⟩ = some (.int .i64 f.B.k) := X1.out.c 12 rfl
  have c13 : w1.cell? ⟨w.heap.size, 13, none⟩ = some (.int .i64 f.B.d) := X1.out.c 13 rfl
  have c14 : w1.cell? ⟨w.heap.size, 14, none⟩ = some (.int .i64 f.B.n) := X1.out.c 14 rfl
  have c15 : w1.cell? ⟨w.heap.size, 15, none⟩ = some (.int .i64 f.B.s) := X1.out.c 15 rfl
  have c16 : w1.cell? ⟨w.heap.size, 16, none⟩ = some (.int .u8 f.B.z) := X1.out.c 16 rfl
  have c17 : w1.cell? ⟨w.heap.size, 17, none⟩ = some (.int .i64 f.B.v) := X1.out.c 17 rfl
  have c18 : w1.cell? ⟨w.heap.size, 18, none⟩ = some (.string f.B.t) := X1.out.c 18 rfl
  go_wp2_with fail
  refine (IB.out _ L2.out T2.out).mono ?_
  rintro e w2 ⟨rfl, hb⟩
  have X2 : Hid (Bx w2 w.heap.size (fL f)) := by have := X1.out.below hb; exact this
  have HB2 : Hid (Below w.heap.size w w2) := HB1.out.trans (hb.mono HB1.out.size)
  clear hb X1 HB1 T2 L2 IB c11 c12 c13 c14 c15 c16 c17 c18
  cases bB
  · go_wp2
    go_ret
    exact ⟨rfl, HB2.out⟩
  have AP' : Hid (∀ w : World, Calls Tryd.prog 61 #[.int .i64 f.A.m, .int .i64 f.B.m] w fun e w' => e = .returned (.bool c) ∧ w' = w) := by first | exact AP.out rfl rfl | exact AP.out trivial trivial | exact AP.out trivial rfl | exact AP.out rfl trivial | exact AP.out trivial | exact AP.out rfl | exact AP.out
  clear AP
  have c3 : w2.cell? ⟨w.heap.size, 3, none⟩ = some (.int .i64 f.A.m) := X2.out.c 3 rfl
  have c11 : w2.cell? ⟨w.heap.size, 11, none⟩ = some (.int .i64 f.B.m) := X2.out.c 11 rfl
  go_wp2_with fail
  refine (AP'.out _).mono ?_
  rintro e w3 ⟨rfl, rfl⟩
  go_wp2
  all_goals go_ret
  all_goals exact ⟨rfl, HB2.out⟩

theorem can_any (f : Ft) (w : World) (hL0 : Cvl.Lens w) (hT0 : Clk.Tab w) :
    Calls Tryd.prog 53 #[.agg #[.bool f.h, .int .i64 f.fr, .int .i64 f.off, .int .i64 f.A.m, .int .i64 f.A.k, .int .i64 f.A.d, .int .i64 f.A.n, .int .i64 f.A.s, .int .u8 f.A.z, .int .i64 f.A.v, .string f.A.t, .int .i64 f.B.m, .int .i64 f.B.k, .int .i64 f.B.d, .int .i64 f.B.n, .int .i64 f.B.s, .int .u8 f.B.z, .int .i64 f.B.v, .string f.B.t]] w fun e w' => e = .returned (.bool (okF f)) ∧ Below w.heap.size w w' :=
  can_run f (okH f.A) (okH f.B) (far f.A.m f.B.m) (fun w a b => half_any f.A w a b) (fun w a b => half_any f.B w a b)
    (fun ha hb w => by
      have A := (okH_of ha).1
      have B := (okH_of hb).1
      exact apart_any f.A.m f.B.m A.2.1 A.2.2 B.2.1 B.2.2 w) w hL0 hT0

end Go.Proofs.YtcgcljfdfimfgaaDoor.Fn
