/- Contracts: when.TextAt and the reference's. -/
import Derived.Test.YthbcicjkmgoliaaDoorFtD
import Derived.Test.YthbcicjkmgoliaaDoorWhnD
import Derived.Laws.Runes
import Derived.Laws.IdiomStrings
namespace Go.Proofs.YthbcicjkmgoliaaDoor
open Go.RowKit
set_option linter.unusedVariables false

/-- can it be a time? -/
def okAt (s k : Int) : Prop := 0 ≤ s ∧ s ≤ 86400 ∧ (k = 119 ∨ k = 115 ∨ k = 117)
instance (s k : Int) : Decidable (okAt s k) := by unfold okAt; infer_instance
/-- hours, minutes and, unless they are 0, seconds. -/
def hmsT (h m s : Int) : ByteArray := if s = 0 then (digB h ++ ⟨#[58]⟩) ++ Clk.twoB m else ((digB h ++ ⟨#[58]⟩) ++ Clk.twoB m) ++ (⟨#[58]⟩ ++ Clk.twoB s)
def atT (s k : Int) : ByteArray := if k = 119 then hmsT (s / 3600) (s / 60 % 60) (s % 60) else hmsT (s / 3600) (s / 60 % 60) (s % 60) ++ ⟨#[UInt8.ofNat k.toNat]⟩

/-- a block that holds a time, as the call made it. -/
def AtS (w : World) (b : Nat) (s k : Int) (W : World) : Prop :=
  b < W.heap.size ∧ W.cell? ⟨b, 0, none⟩ = some (.int .i64 s) ∧ W.cell? ⟨b, 1, none⟩ = some (.int .u8 k) ∧ Below w.heap.size w W
theorem AtS.below {w W W1 : World} {b : Nat} {s k : Int} (h : AtS w b s k W) (hb : Below W.heap.size W W1) : AtS w b s k W1 :=
  ⟨Nat.lt_of_lt_of_le h.1 hb.size, (hb.cell (p := ⟨b, 0, none⟩) h.1).trans h.2.1, (hb.cell (p := ⟨b, 1, none⟩) h.1).trans h.2.2.1, h.2.2.2.trans (hb.mono h.2.2.2.size)⟩
theorem AtS.drew {w W : World} {b : Nat} {s k : Int} (h : AtS w b s k W) : AtS w b s k W.drew := ⟨h.1, h.2.1, h.2.2.1, h.2.2.2.drew⟩
theorem AtS.new (w : World) (s k : Int) (t : TypeId) : AtS w w.heap.size s k (w.alloc (.cells #[.int .i64 s, .int .u8 k] t)) :=
  ⟨by simp, by rw [World.cell?_alloc_at _ _ _ _ rfl]; rfl, by rw [World.cell?_alloc_at _ _ _ _ rfl]; rfl, (Below.refl _ _).alloc (Nat.le_refl _) _⟩

theorem enc_s : Utf8.encode 115 = ⟨#[115]⟩ := by decide +kernel
theorem enc_u : Utf8.encode 117 = ⟨#[117]⟩ := by decide +kernel
theorem one_byte (c : UInt8) (x : Int) (hx : (c.toNat : Int) = x) (W : World) (t : TypeId) : (convert 115 9 (.slice (some ⟨W.heap.size, 0, none⟩) 1 1)).run Tryd.prog (W.alloc (.cells #[.int .u8 x] t)) = .ok (.string ⟨#[c]⟩) (W.alloc (.cells #[.int .u8 x] t)) := by
  subst hx
  exact run_convert_bytes_back (W.alloc (.cells #[.int .u8 (c.toNat : Int)] t)) 115 9 5 ⟨W.heap.size, 0, none⟩ 1 [c] Tryd.underlying115 Tryd.underlying5 Tryd.underlying9 (fun j hj => by
    obtain rfl : j = 0 := by simp at hj; omega
    show (W.alloc _).cell? ⟨W.heap.size, 0 + 0, none⟩ = _
    rw [World.cell?_alloc_at _ _ _ _ rfl]
    rfl)

set_option maxRecDepth 100000 in
set_option maxHeartbeats 8000000 in
theorem tat_lo (s k : Int) (h : s < 0) (w : World) :
    Calls Tryd.prog 38 #[.agg #[.int .i64 s, .int .u8 k]] w fun e w' => e = .returned (.tuple #[.string ⟨#[]⟩, .int .i64 1]) ∧ Below w.heap.size w w' := by
  go_enter Tryd.func38, Tryd.ntmps38
  go_wp2
  go_ret2
  exact ⟨rfl, (by repeat' (first | assumption | exact Below.refl _ _ | exact Nat.le_refl _ | refine Below.alloc ?_ ?_ _ | (simp; done) | (simp; omega) | omega))⟩

set_option maxRecDepth 100000 in
set_option maxHeartbeats 8000000 in
theorem tat_hi (s k : Int) (h : 86400 < s) (w : World) :
    Calls Tryd.prog 38 #[.agg #[.int .i64 s, .int .u8 k]] w fun e w' => e = .returned (.tuple #[.string ⟨#[]⟩, .int .i64 1]) ∧ Below w.heap.size w w' := by
  have h2 : ¬ s < 0 := by omega
  go_enter Tryd.func38, Tryd.ntmps38
  go_wp2
  go_ret2
  exact ⟨rfl, (by repeat' (first | assumption | exact Below.refl _ _ | exact Nat.le_refl _ | refine Below.alloc ?_ ?_ _ | (simp; done) | (simp; omega) | omega))⟩

set_option maxRecDepth 100000 in
set_option maxHeartbeats 8000000 in
theorem tat_wz (s h m sc us : Int) (HT MT ST : ByteArray) (z1 : HT.size ≤ 21) (z2 : MT.size ≤ 21) (z3 : ST.size ≤ 21) (s0 : 0 ≤ s) (s1 : s ≤ 86400) (hz : sc = 0) 
    (PA : Hid (∀ w : World, Calls Tryd.prog 52 #[.int .i64 (s * 1000000)] w fun e w' => e = .returned (.tuple #[.int .i64 h, .int .i64 m, .int .i64 sc, .int .i64 us, .int .i64 0]) ∧ w' = w))
    (FI : Hid (∀ w : World, Calls Tryd.prog 53 #[.int .i64 h, .int .i64 10] w fun e w' => e = .returned (.string HT) ∧ w' = w))
    (T1 : Hid (∀ w : World, Clk.Tab w → Calls Tryd.prog 54 #[.int .i64 m] w fun e w' => e = .returned (.string MT) ∧ Below w.heap.size w w'))
    (w : World) (hT : Hid (Clk.Tab w)) :
    Calls Tryd.prog 38 #[.agg #[.int .i64 s, .int .u8 119]] w fun e w' => e = .returned (.tuple #[.string ((HT ++ ⟨#[58]⟩) ++ MT), .int .i64 0]) ∧ Below w.heap.size w w' := by
  have h1 : ¬ s < 0 := by omega
  have h2 : ¬ 86400 < s := by omega
  subst hz
  have S0 : Hid (AtS w w.heap.size s 119 (w.alloc (.cells #[.int .i64 s, .int .u8 119] 35))) := AtS.new w _ _ _
  go_enter Tryd.func38, Tryd.ntmps38
  go_wp2_with fail
  refine (PA.out _).mono ?_
  rintro e v1 ⟨rfl, rfl⟩
  go_wp2_with fail
  refine (FI.out _).mono ?_
  rintro e v2 ⟨rfl, rfl⟩
  go_wp2_with fail
  refine (T1.out _ (hT.out.below S0.out.2.2.2)).mono ?_
  rintro e w1 ⟨rfl, hb⟩
  have S1 : Hid (AtS w w.heap.size s 119 w1) := S0.out.below hb
  clear hb S0
  obtain ⟨o1, o2, o3, o4⟩ := id S1.out
  clear o4
  go_wp2
  go_ret2
  exact ⟨rfl, S1.out.2.2.2⟩

set_option maxRecDepth 100000 in
set_option maxHeartbeats 8000000 in
theorem tat_wn (s h m sc us : Int) (HT MT ST : ByteArray) (z1 : HT.size ≤ 21) (z2 : MT.size ≤ 21) (z3 : ST.size ≤ 21) (s0 : 0 ≤ s) (s1 : s ≤ 86400) (hz : sc ≠ 0) 
    (PA : Hid (∀ w : World, Calls Tryd.prog 52 #[.int .i64 (s * 1000000)] w fun e w' => e = .returned (.tuple #[.int .i64 h, .int .i64 m, .int .i64 sc, .int .i64 us, .int .i64 0]) ∧ w' = w))
    (FI : Hid (∀ w : World, Calls Tryd.prog 53 #[.int .i64 h, .int .i64 10] w fun e w' => e = .returned (.string HT) ∧ w' = w))
    (T1 : Hid (∀ w : World, Clk.Tab w → Calls Tryd.prog 54 #[.int .i64 m] w fun e w' => e = .returned (.string MT) ∧ Below w.heap.size w w'))
    (T2 : Hid (∀ w : World, Clk.Tab w → Calls Tryd.prog 54 #[.int .i64 sc] w fun e w' => e = .returned (.string ST) ∧ Below w.heap.size w w'))
    (w : World) (hT : Hid (Clk.Tab w)) :
    Calls Tryd.prog 38 #[.agg #[.int .i64 s, .int .u8 119]] w fun e w' => e = .returned (.tuple #[.string (((HT ++ ⟨#[58]⟩) ++ MT) ++ (⟨#[58]⟩ ++ ST)), .int .i64 0]) ∧ Below w.heap.size w w' := by
  have h1 : ¬ s < 0 := by omega
  have h2 : ¬ 86400 < s := by omega
  have hz1 : (sc != 0) = true := bne_iff_ne.2 hz
  have S0 : Hid (AtS w w.heap.size s 119 (w.alloc (.cells #[.int .i64 s, .int .u8 119] 35))) := AtS.new w _ _ _
  go_enter Tryd.func38, Tryd.ntmps38
  go_wp2_with fail
  refine (PA.out _).mono ?_
  rintro e v1 ⟨rfl, rfl⟩
  go_wp2_with fail
  refine (FI.out _).mono ?_
  rintro e v2 ⟨rfl, rfl⟩
  go_wp2_with fail
  refine (T1.out _ (hT.out.below S0.out.2.2.2)).mono ?_
  rintro e w1 ⟨rfl, hb⟩
  have S1 : Hid (AtS w w.heap.size s 119 w1) := S0.out.below hb
  clear hb S0
  go_wp2_with fail
  refine (T2.out _ (hT.out.below S1.out.2.2.2)).mono ?_
  rintro e w2 ⟨rfl, hb⟩
  have S2 : Hid (AtS w w.heap.size s 119 w2) := S1.out.below hb
  clear hb S1
  obtain ⟨o1, o2, o3, o4⟩ := id S2.out
  clear o4
  go_wp2
  go_ret2
  exact ⟨rfl, S2.out.2.2.2⟩

set_option maxRecDepth 100000 in
set_option maxHeartbeats 8000000 in
theorem tat_sz (s h m sc us : Int) (HT MT ST : ByteArray) (z1 : HT.size ≤ 21) (z2 : MT.size ≤ 21) (z3 : ST.size ≤ 21) (s0 : 0 ≤ s) (s1 : s ≤ 86400) (hz : sc = 0) 
    (PA : Hid (∀ w : World, Calls Tryd.prog 52 #[.int .i64 (s * 1000000)] w fun e w' => e = .returned (.tuple #[.int .i64 h, .int .i64 m, .int .i64 sc, .int .i64 us, .int .i64 0]) ∧ w' = w))
    (FI : Hid (∀ w : World, Calls Tryd.prog 53 #[.int .i64 h, .int .i64 10] w fun e w' => e = .returned (.string HT) ∧ w' = w))
    (T1 : Hid (∀ w : World, Clk.Tab w → Calls Tryd.prog 54 #[.int .i64 m] w fun e w' => e = .returned (.string MT) ∧ Below w.heap.size w w'))
    (w : World) (hT : Hid (Clk.Tab w)) :
    Calls Tryd.prog 38 #[.agg #[.int .i64 s, .int .u8 115]] w fun e w' => e = .returned (.tuple #[.string (((HT ++ ⟨#[58]⟩) ++ MT) ++ ⟨#[115]⟩), .int .i64 0]) ∧ Below w.heap.size w w' := by
  have h1 : ¬ s < 0 := by omega
  have h2 : ¬ 86400 < s := by omega
  have en := enc_s
  subst hz
  have S0 : Hid (AtS w w.heap.size s 115 (w.alloc (.cells #[.int .i64 s, .int .u8 115] 35))) := AtS.new w _ _ _
  go_enter Tryd.func38, Tryd.ntmps38
  go_wp2_with fail
  refine (PA.out _).mono ?_
  rintro e v1 ⟨rfl, rfl⟩
  go_wp2_with fail
  refine (FI.out _).mono ?_
  rintro e v2 ⟨rfl, rfl⟩
  go_wp2_with fail
  refine (T1.out _ (hT.out.below S0.out.2.2.2)).mono ?_
  rintro e w1 ⟨rfl, hb⟩
  have S1 : Hid (AtS w w.heap.size s 115 w1) := S0.out.below hb
  clear hb S0
  obtain ⟨o1, o2, o3, o4⟩ := id S1.out
  clear o4
  go_wp2
  go_ret2
  exact ⟨rfl, S1.out.2.2.2⟩

set_option maxRecDepth 100000 in
set_option maxHeartbeats 8000000 in
theorem tat_sn (s h m sc us : Int) (HT MT ST : ByteArray) (z1 : HT.size ≤ 21) (z2 : MT.size ≤ 21) (z3 : ST.size ≤ 21) (s0 : 0 ≤ s) (s1 : s ≤ 86400) (hz : sc ≠ 0) 
    (PA : Hid (∀ w : World, Calls Tryd.prog 52 #[.int .i64 (s * 1000000)] w fun e w' => e = .returned (.tuple #[.int .i64 h, .int .i64 m, .int .i64 sc, .int .i64 us, .int .i64 0]) ∧ w' = w))
    (FI : Hid (∀ w : World, Calls Tryd.prog 53 #[.int .i64 h, .int .i64 10] w fun e w' => e = .returned (.string HT) ∧ w' = w))
    (T1 : Hid (∀ w : World, Clk.Tab w → Calls Tryd.prog 54 #[.int .i64 m] w fun e w' => e = .returned (.string MT) ∧ Below w.heap.size w w'))
    (T2 : Hid (∀ w : World, Clk.Tab w → Calls Tryd.prog 54 #[.int .i64 sc] w fun e w' => e = .returned (.string ST) ∧ Below w.heap.size w w'))
    (w : World) (hT : Hid (Clk.Tab w)) :
    Calls Tryd.prog 38 #[.agg #[.int .i64 s, .int .u8 115]] w fun e w' => e = .returned (.tuple #[.string ((((HT ++ ⟨#[58]⟩) ++ MT) ++ (⟨#[58]⟩ ++ ST)) ++ ⟨#[115]⟩), .int .i64 0]) ∧ Below w.heap.size w w' := by
  have h1 : ¬ s < 0 := by omega
  have h2 : ¬ 86400 < s := by omega
  have en := enc_s
  have hz1 : (sc != 0) = true := bne_iff_ne.2 hz
  have S0 : Hid (AtS w w.heap.size s 115 (w.alloc (.cells #[.int .i64 s, .int .u8 115] 35))) := AtS.new w _ _ _
  go_enter Tryd.func38, Tryd.ntmps38
  go_wp2_with fail
  refine (PA.out _).mono ?_
  rintro e v1 ⟨rfl, rfl⟩
  go_wp2_with fail
  refine (FI.out _).mono ?_
  rintro e v2 ⟨rfl, rfl⟩
  go_wp2_with fail
  refine (T1.out _ (hT.out.below S0.out.2.2.2)).mono ?_
  rintro e w1 ⟨rfl, hb⟩
  have S1 : Hid (AtS w w.heap.size s 115 w1) := S0.out.below hb
  clear hb S0
  go_wp2_with fail
  refine (T2.out _ (hT.out.below S1.out.2.2.2)).mono ?_
  rintro e w2 ⟨rfl, hb⟩
  have S2 : Hid (AtS w w.heap.size s 115 w2) := S1.out.below hb
  clear hb S1
  obtain ⟨o1, o2, o3, o4⟩ := id S2.out
  clear o4
  go_wp2
  go_ret2
  exact ⟨rfl, S2.out.2.2.2⟩

set_option maxRecDepth 100000 in
set_option maxHeartbeats 8000000 in
theorem tat_uz (s h m sc us : Int) (HT MT ST : ByteArray) (z1 : HT.size ≤ 21) (z2 : MT.size ≤ 21) (z3 : ST.size ≤ 21) (s0 : 0 ≤ s) (s1 : s ≤ 86400) (hz : sc = 0) 
    (PA : Hid (∀ w : World, Calls Tryd.prog 52 #[.int .i64 (s * 1000000)] w fun e w' => e = .returned (.tuple #[.int .i64 h, .int .i64 m, .int .i64 sc, .int .i64 us, .int .i64 0]) ∧ w' = w))
    (FI : Hid (∀ w : World, Calls Tryd.prog 53 #[.int .i64 h, .int .i64 10] w fun e w' => e = .returned (.string HT) ∧ w' = w))
    (T1 : Hid (∀ w : World, Clk.Tab w → Calls Tryd.prog 54 #[.int .i64 m] w fun e w' => e = .returned (.string MT) ∧ Below w.heap.size w w'))
    (w : World) (hT : Hid (Clk.Tab w)) :
    Calls Tryd.prog 38 #[.agg #[.int .i64 s, .int .u8 117]] w fun e w' => e = .returned (.tuple #[.string (((HT ++ ⟨#[58]⟩) ++ MT) ++ ⟨#[117]⟩), .int .i64 0]) ∧ Below w.heap.size w w' := by
  have h1 : ¬ s < 0 := by omega
  have h2 : ¬ 86400 < s := by omega
  have en := enc_u
  subst hz
  have S0 : Hid (AtS w w.heap.size s 117 (w.alloc (.cells #[.int .i64 s, .int .u8 117] 35))) := AtS.new w _ _ _
  go_enter Tryd.func38, Tryd.ntmps38
  go_wp2_with fail
  refine (PA.out _).mono ?_
  rintro e v1 ⟨rfl, rfl⟩
  go_wp2_with fail
  refine (FI.out _).mono ?_
  rintro e v2 ⟨rfl, rfl⟩
  go_wp2_with fail
  refine (T1.out _ (hT.out.below S0.out.2.2.2)).mono ?_
  rintro e w1 ⟨rfl, hb⟩
  have S1 : Hid (AtS w w.heap.size s 117 w1) := S0.out.below hb
  clear hb S0
  obtain ⟨o1, o2, o3, o4⟩ := id S1.out
  clear o4
  go_wp2
  go_ret2
  exact ⟨rfl, S1.out.2.2.2⟩

set_option maxRecDepth 100000 in
set_option maxHeartbeats 8000000 in
theorem tat_un (s h m sc us : Int) (HT MT ST : ByteArray) (z1 : HT.size ≤ 21) (z2 : MT.size ≤ 21) (z3 : ST.size ≤ 21) (s0 : 0 ≤ s) (s1 : s ≤ 86400) (hz : sc ≠ 0) 
    (PA : Hid (∀ w : World, Calls Tryd.prog 52 #[.int .i64 (s * 1000000)] w fun e w' => e = .returned (.tuple #[.int .i64 h, .int .i64 m, .int .i64 sc, .int .i64 us, .int .i64 0]) ∧ w' = w))
    (FI : Hid (∀ w : World, Calls Tryd.prog 53 #[.int .i64 h, .int .i64 10] w fun e w' => e = .returned (.string HT) ∧ w' = w))
    (T1 : Hid (∀ w : World, Clk.Tab w → Calls Tryd.prog 54 #[.int .i64 m] w fun e w' => e = .returned (.string MT) ∧ Below w.heap.size w w'))
    (T2 : Hid (∀ w : World, Clk.Tab w → Calls Tryd.prog 54 #[.int .i64 sc] w fun e w' => e = .returned (.string ST) ∧ Below w.heap.size w w'))
    (w : World) (hT : Hid (Clk.Tab w)) :
    Calls Tryd.prog 38 #[.agg #[.int .i64 s, .int .u8 117]] w fun e w' => e = .returned (.tuple #[.string ((((HT ++ ⟨#[58]⟩) ++ MT) ++ (⟨#[58]⟩ ++ ST)) ++ ⟨#[117]⟩), .int .i64 0]) ∧ Below w.heap.size w w' := by
  have h1 : ¬ s < 0 := by omega
  have h2 : ¬ 86400 < s := by omega
  have en := enc_u
  have hz1 : (sc != 0) = true := bne_iff_ne.2 hz
  have S0 : Hid (AtS w w.heap.size s 117 (w.alloc (.cells #[.int .i64 s, .int .u8 117] 35))) := AtS.new w _ _ _
  go_enter Tryd.func38, Tryd.ntmps38
  go_wp2_with fail
  refine (PA.out _).mono ?_
  rintro e v1 ⟨rfl, rfl⟩
  go_wp2_with fail
  refine (FI.out _).mono ?_
  rintro e v2 ⟨rfl, rfl⟩
  go_wp2_with fail
  refine (T1.out _ (hT.out.below S0.out.2.2.2)).mono ?_
  rintro e w1 ⟨rfl, hb⟩
  have S1 : Hid (AtS w w.heap.size s 117 w1) := S0.out.below hb
  clear hb S0
  go_wp2_with fail
  refine (T2.out _ (hT.out.below S1.out.2.2.2)).mono ?_
  rintro e w2 ⟨rfl, hb⟩
  have S2 : Hid (AtS w w.heap.size s 117 w2) := S1.out.below hb
  clear hb S1
  obtain ⟨o1, o2, o3, o4⟩ := id S2.out
  clear o4
  go_wp2
  go_ret2
  exact ⟨rfl, S2.out.2.2.2⟩

set_option maxRecDepth 100000 in
set_option maxHeartbeats 8000000 in
theorem tat_xz (s k h m sc us : Int) (HT MT ST : ByteArray) (z1 : HT.size ≤ 21) (z2 : MT.size ≤ 21) (z3 : ST.size ≤ 21) (s0 : 0 ≤ s) (s1 : s ≤ 86400) (hz : sc = 0) (k0 : k ≠ 119) (k1 : k ≠ 115) (k2 : k ≠ 117)
    (PA : Hid (∀ w : World, Calls Tryd.prog 52 #[.int .i64 (s * 1000000)] w fun e w' => e = .returned (.tuple #[.int .i64 h, .int .i64 m, .int .i64 sc, .int .i64 us, .int .i64 0]) ∧ w' = w))
    (FI : Hid (∀ w : World, Calls Tryd.prog 53 #[.int .i64 h, .int .i64 10] w fun e w' => e = .returned (.string HT) ∧ w' = w))
    (T1 : Hid (∀ w : World, Clk.Tab w → Calls Tryd.prog 54 #[.int .i64 m] w fun e w' => e = .returned (.string MT) ∧ Below w.heap.size w w'))
    (w : World) (hT : Hid (Clk.Tab w)) :
    Calls Tryd.prog 38 #[.agg #[.int .i64 s, .int .u8 k]] w fun e w' => e = .returned (.tuple #[.string ⟨#[]⟩, .int .i64 1]) ∧ Below w.heap.size w w' := by
  have h1 : ¬ s < 0 := by omega
  have h2 : ¬ 86400 < s := by omega
  have q0 : (k == 119) = false := beq_eq_false_iff_ne.2 k0
  have q1 : (k == 115) = false := beq_eq_false_iff_ne.2 k1
  have q2 : (k == 117) = false := beq_eq_false_iff_ne.2 k2
  subst hz
  have S0 : Hid (AtS w w.heap.size s k (w.alloc (.cells #[.int .i64 s, .int .u8 k] 35))) := AtS.new w _ _ _
  go_enter Tryd.func38, Tryd.ntmps38
  go_wp2_with fail
  refine (PA.out _).mono ?_
  rintro e v1 ⟨rfl, rfl⟩
  go_wp2_with fail
  refine (FI.out _).mono ?_
  rintro e v2 ⟨rfl, rfl⟩
  go_wp2_with fail
  refine (T1.out _ (hT.out.below S0.out.2.2.2)).mono ?_
  rintro e w1 ⟨rfl, hb⟩
  have S1 : Hid (AtS w w.heap.size s k w1) := S0.out.below hb
  clear hb S0
  obtain ⟨o1, o2, o3, o4⟩ := id S1.out
  clear o4
  go_wp2
  go_ret2
  exact ⟨rfl, S1.out.2.2.2⟩

set_option maxRecDepth 100000 in
set_option maxHeartbeats 8000000 in
theorem tat_xn (s k h m sc us : Int) (HT MT ST : ByteArray) (z1 : HT.size ≤ 21) (z2 : MT.size ≤ 21) (z3 : ST.size ≤ 21) (s0 : 0 ≤ s) (s1 : s ≤ 86400) (hz : sc ≠ 0) (k0 : k ≠ 119) (k1 : k ≠ 115) (k2 : k ≠ 117)
    (PA : Hid (∀ w : World, Calls Tryd.prog 52 #[.int .i64 (s * 1000000)] w fun e w' => e = .returned (.tuple #[.int .i64 h, .int .i64 m, .int .i64 sc, .int .i64 us, .int .i64 0]) ∧ w' = w))
    (FI : Hid (∀ w : World, Calls Tryd.prog 53 #[.int .i64 h, .int .i64 10] w fun e w' => e = .returned (.string HT) ∧ w' = w))
    (T1 : Hid (∀ w : World, Clk.Tab w → Calls Tryd.prog 54 #[.int .i64 m] w fun e w' => e = .returned (.string MT) ∧ Below w.heap.size w w'))
    (T2 : Hid (∀ w : World, Clk.Tab w → Calls Tryd.prog 54 #[.int .i64 sc] w fun e w' => e = .returned (.string ST) ∧ Below w.heap.size w w'))
    (w : World) (hT : Hid (Clk.Tab w)) :
    Calls Tryd.prog 38 #[.agg #[.int .i64 s, .int .u8 k]] w fun e w' => e = .returned (.tuple #[.string ⟨#[]⟩, .int .i64 1]) ∧ Below w.heap.size w w' := by
  have h1 : ¬ s < 0 := by omega
  have h2 : ¬ 86400 < s := by omega
  have q0 : (k == 119) = false := beq_eq_false_iff_ne.2 k0
  have q1 : (k == 115) = false := beq_eq_false_iff_ne.2 k1
  have q2 : (k == 117) = false := beq_eq_false_iff_ne.2 k2
  have hz1 : (sc != 0) = true := bne_iff_ne.2 hz
  have S0 : Hid (AtS w w.heap.size s k (w.alloc (.cells #[.int .i64 s, .int .u8 k] 35))) := AtS.new w _ _ _
  go_enter Tryd.func38, Tryd.ntmps38
  go_wp2_with fail
  refine (PA.out _).mono ?_
  rintro e v1 ⟨rfl, rfl⟩
  go_wp2_with fail
  refine (FI.out _).mono ?_
  rintro e v2 ⟨rfl, rfl⟩
  go_wp2_with fail
  refine (T1.out _ (hT.out.below S0.out.2.2.2)).mono ?_
  rintro e w1 ⟨rfl, hb⟩
  have S1 : Hid (AtS w w.heap.size s k w1) := S0.out.below hb
  clear hb S0
  go_wp2_with fail
  refine (T2.out _ (hT.out.below S1.out.2.2.2)).mono ?_
  rintro e w2 ⟨rfl, hb⟩
  have S2 : Hid (AtS w w.heap.size s k w2) := S1.out.below hb
  clear hb S1
  obtain ⟨o1, o2, o3, o4⟩ := id S2.out
  clear o4
  go_wp2
  go_ret2
  exact ⟨rfl, S2.out.2.2.2⟩

set_option maxRecDepth 100000 in
set_option maxHeartbeats 8000000 in
theorem rightAt_yes (s k : Int) (h : okAt s k) (w : World) :
    Calls Tryd.prog 41 #[.agg #[.int .i64 s, .int .u8 k]] w fun e w' => e = .returned (.bool true) ∧ Below w.heap.size w w' := by
  have HO : Hid (okAt s k) := h
  clear h
  by_cases a : 0 ≤ s
  · by_cases b : s ≤ 86400
    · by_cases k0 : k = 119
      · subst k0
        go_enter Tryd.func41, Tryd.ntmps41
        go_wp2
        all_goals first
          | (go_ret; exact ⟨rfl, (by repeat' (first | assumption | exact Below.refl _ _ | exact Nat.le_refl _ | refine Below.alloc ?_ ?_ _ | (simp; done) | (simp; omega) | omega))⟩)
          | (exfalso; have := HO.out; unfold okAt at this; omega)
      · have e0 : (k == 119) = false := beq_eq_false_iff_ne.2 k0
        by_cases k1 : k = 115
        · subst k1
          go_enter Tryd.func41, Tryd.ntmps41
          go_wp2
          all_goals first
            | (go_ret; exact ⟨rfl, (by repeat' (first | assumption | exact Below.refl _ _ | exact Nat.le_refl _ | refine Below.alloc ?_ ?_ _ | (simp; done) | (simp; omega) | omega))⟩)
            | (exfalso; have := HO.out; unfold okAt at this; omega)
        · have e1 : (k == 115) = false := beq_eq_false_iff_ne.2 k1
          by_cases k2 : k = 117
          · subst k2
            go_enter Tryd.func41, Tryd.ntmps41
            go_wp2
            all_goals first
              | (go_ret; exact ⟨rfl, (by repeat' (first | assumption | exact Below.refl _ _ | exact Nat.le_refl _ | refine Below.alloc ?_ ?_ _ | (simp; done) | (simp; omega) | omega))⟩)
              | (exfalso; have := HO.out; unfold okAt at this; omega)
          · have e2 : (k == 117) = false := beq_eq_false_iff_ne.2 k2
            go_enter Tryd.func41, Tryd.ntmps41
            go_wp2
            all_goals first
              | (go_ret; exact ⟨rfl, (by repeat' (first | assumption | exact Below.refl _ _ | exact Nat.le_refl _ | refine Below.alloc ?_ ?_ _ | (simp; done) | (simp; omega) | omega))⟩)
              | (exfalso; have := HO.out; unfold okAt at this; omega)
    · go_enter Tryd.func41, Tryd.ntmps41
      go_wp2
      all_goals first
        | (go_ret; exact ⟨rfl, (by repeat' (first | assumption | exact Below.refl _ _ | exact Nat.le_refl _ | refine Below.alloc ?_ ?_ _ | (simp; done) | (simp; omega) | omega))⟩)
        | (exfalso; have := HO.out; unfold okAt at this; omega)
  · go_enter Tryd.func41, Tryd.ntmps41
    go_wp2
    all_goals first
      | (go_ret; exact ⟨rfl, (by repeat' (first | assumption | exact Below.refl _ _ | exact Nat.le_refl _ | refine Below.alloc ?_ ?_ _ | (simp; done) | (simp; omega) | omega))⟩)
      | (exfalso; have := HO.out; unfold okAt at this; omega)

set_option maxRecDepth 100000 in
set_option maxHeartbeats 8000000 in
theorem rightAt_no (s k : Int) (h : ¬ okAt s k) (w : World) :
    Calls Tryd.prog 41 #[.agg #[.int .i64 s, .int .u8 k]] w fun e w' => e = .returned (.bool false) ∧ Below w.heap.size w w' := by
  have HO : Hid (¬ okAt s k) := h
  clear h
  by_cases a : 0 ≤ s
  · by_cases b : s ≤ 86400
    · by_cases k0 : k = 119
      · subst k0
        go_enter Tryd.func41, Tryd.ntmps41
        go_wp2
        all_goals first
          | (go_ret; exact ⟨rfl, (by repeat' (first | assumption | exact Below.refl _ _ | exact Nat.le_refl _ | refine Below.alloc ?_ ?_ _ | (simp; done) | (simp; omega) | omega))⟩)
          | (exfalso; have := HO.out; unfold okAt at this; omega)
      · have e0 : (k == 119) = false := beq_eq_false_iff_ne.2 k0
        by_cases k1 : k = 115
        · subst k1
          go_enter Tryd.func41, Tryd.ntmps41
          go_wp2
          all_goals first
            | (go_ret; exact ⟨rfl, (by repeat' (first | assumption | exact Below.refl _ _ | exact Nat.le_refl _ | refine Below.alloc ?_ ?_ _ | (simp; done) | (simp; omega) | omega))⟩)
            | (exfalso; have := HO.out; unfold okAt at this; omega)
        · have e1 : (k == 115) = false := beq_eq_false_iff_ne.2 k1
          by_cases k2 : k = 117
          · subst k2
            go_enter Tryd.func41, Tryd.ntmps41
            go_wp2
            all_goals first
              | (go_ret; exact ⟨rfl, (by repeat' (first | assumption | exact Below.refl _ _ | exact Nat.le_refl _ | refine Below.alloc ?_ ?_ _ | (simp; done) | (simp; omega) | omega))⟩)
              | (exfalso; have := HO.out; unfold okAt at this; omega)
          · have e2 : (k == 117) = false := beq_eq_false_iff_ne.2 k2
            go_enter Tryd.func41, Tryd.ntmps41
            go_wp2
            all_goals first
              | (go_ret; exact ⟨rfl, (by repeat' (first | assumption | exact Below.refl _ _ | exact Nat.le_refl _ | refine Below.alloc ?_ ?_ _ | (simp; done) | (simp; omega) | omega))⟩)
              | (exfalso; have := HO.out; unfold okAt at this; omega)
    · go_enter Tryd.func41, Tryd.ntmps41
      go_wp2
      all_goals first
        | (go_ret; exact ⟨rfl, (by repeat' (first | assumption | exact Below.refl _ _ | exact Nat.le_refl _ | refine Below.alloc ?_ ?_ _ | (simp; done) | (simp; omega) | omega))⟩)
        | (exfalso; have := HO.out; unfold okAt at this; omega)
  · go_enter Tryd.func41, Tryd.ntmps41
    go_wp2
    all_goals first
      | (go_ret; exact ⟨rfl, (by repeat' (first | assumption | exact Below.refl _ _ | exact Nat.le_refl _ | refine Below.alloc ?_ ?_ _ | (simp; done) | (simp; omega) | omega))⟩)
      | (exfalso; have := HO.out; unfold okAt at this; omega)

end Go.Proofs.YthbcicjkmgoliaaDoor
