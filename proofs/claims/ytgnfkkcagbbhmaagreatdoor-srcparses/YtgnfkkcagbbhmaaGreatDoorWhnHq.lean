/- Contracts: when.seconds, when.clockOf, when.ReadAt, when.ReadSave. -/
import Derived.Test.YtgnfkkcagbbhmaaGreatDoorWhnGq
import Derived.Test.YtgnfkkcagbbhmaaGreatDoorClkMq
namespace Go.Proofs.YtgnfkkcagbbhmaaGreatDoor
open Go.RowKit
set_option linter.unusedVariables false

/-- the clock that a letter names. -/
def clkV (L : List UInt8) : Int := if L = [] ∨ L = [119] then 119 else if L = [115] then 115 else if L = [117] ∨ L = [103] ∨ L = [122] then 117 else 0
theorem ret_u8 {a b : Int} (h : a = b) : Ending.returned (.int .u8 a) = .returned (.int .u8 b) := by rw [h]

set_option maxRecDepth 100000 in
set_option maxHeartbeats 4000000 in
theorem clockOf_any (RS : ByteArray) (w : World) :
    Calls Tryz.prog 196 #[.string RS] w fun e w' => e = .returned (.int .u8 (clkV RS.toList)) ∧ Below w.heap.size w w' := by
  obtain ⟨V, hV⟩ : ∃ V, V = clkV RS.toList := ⟨_, rfl⟩
  rw [← hV]
  have HV : Hid (V = clkV RS.toList) := hV
  clear hV
  by_cases h0 : RS.size = 0
  · obtain rfl := Wrd.empty_of h0
    obtain rfl : V = 119 := by rw [HV.out, Lib.toList_data]; decide
    clear h0
    go_enter Tryz.func196, Tryz.ntmps196
    go_wp2
    go_ret
    exact ⟨rfl, Below.refl _ _⟩
  · obtain ⟨r1, r2⟩ := Wrd.toList_ne h0
    have HN : Hid (RS.toList ≠ []) := fun e => by rw [e] at r2; simp at r2
    go_enter Tryz.func196, Tryz.ntmps196
    go_wp2
    all_goals (go_ret; refine ⟨ret_u8 ?_, Below.refl _ _⟩; rw [HV.out]; have hn := HN.out; unfold clkV; simp_all)

theorem ret_three3 {a c : Int} {b d : ByteArray} {x y : Bool} (h1 : a = c) (h2 : b = d) (h3 : x = y) : Ending.returned (.tuple #[.int .i64 a, .string b, .bool x]) = .returned (.tuple #[.int .i64 c, .string d, .bool y]) := by rw [h1, h2, h3]

set_option maxRecDepth 100000 in
set_option maxHeartbeats 4000000 in
theorem seconds_core (s FC RS F2 : ByteArray) (V E U : Int) (b : Bool) (hz : FC.size ≤ 140737488351232) (hF : F2 = if b = true then FC else FC ++ ⟨#[58, 48, 48]⟩) (hU : V.tdiv 1000000 = U) (v1 : 0 ≤ V) (v2 : V ≤ 9000000000000000000)
    (CU : Hid (∀ w : World, Calls Tryz.prog 188 #[.string s, .func (.func 197) #[] #[]] w fun e w' => e = .returned (.tuple #[.string FC, .string RS]) ∧ Below w.heap.size w w'))
    (CO : Hid (∀ w : World, Calls Tryz.prog 35 #[.string FC, .string ⟨#[58]⟩] w fun e w' => e = .returned (.bool b) ∧ w' = w))
    (RD : Hid (∀ w : World, Calls Tryz.prog 198 #[.string F2] w fun e w' => e = .returned (.tuple #[.int .i64 V, .int .i64 E]) ∧ Below w.heap.size w w')) (w : World) :
    Calls Tryz.prog 195 #[.string s] w fun e w' => e = .returned (.tuple #[.int .i64 U, .string RS, .bool (E == 0)]) ∧ Below w.heap.size w w' := by
  have hU' : V / 1000000 = U := by rw [← hU, Int.tdiv_eq_ediv_of_nonneg v1]
  have u0 : 0 ≤ U := by omega
  have u1 : U ≤ 9000000000000000000 := by omega
  clear hU'
  cases b
  · rw [if_neg (by decide)] at hF
    subst hF
    go_enter Tryz.func195, Tryz.ntmps195
    go_wp2_with fail
    refine (CU.out _).mono ?_
    rintro e w1 ⟨rfl, hb⟩
    have B1 : Hid (BelS w w1) := hb
    clear hb
    go_wp2_with fail
    refine (CO.out _).mono ?_
    rintro e w2 ⟨rfl, rfl⟩
    go_wp2_with fail
    refine (RD.out _).mono ?_
    rintro e w3 ⟨rfl, hb⟩
    have B3 : Hid (BelS w w3) := B1.out.below hb
    clear hb
    go_wp2
    refine bodyPost_ret (results_tmp3 rfl _ _ _) rfl ?_
    exact ⟨ret_three3 rfl rfl rfl, B3.out⟩
  · rw [if_pos rfl] at hF
    subst hF
    go_enter Tryz.func195, Tryz.ntmps195
    go_wp2_with fail
    refine (CU.out _).mono ?_
    rintro e w1 ⟨rfl, hb⟩
    have B1 : Hid (BelS w w1) := hb
    clear hb
    go_wp2_with fail
    refine (CO.out _).mono ?_
    rintro e w2 ⟨rfl, rfl⟩
    go_wp2_with fail
    refine (RD.out _).mono ?_
    rintro e w3 ⟨rfl, hb⟩
    have B3 : Hid (BelS w w3) := B1.out.below hb
    clear hb
    go_wp2
    refine bodyPost_ret (results_tmp3 rfl _ _ _) rfl ?_
    exact ⟨ret_three3 rfl rfl rfl, B3.out⟩

/-- the face at a text's beginning, with minutes. -/
def fc (l : List UInt8) : List UInt8 := if 0 ≤ Lib.indexByte (l.takeWhile faceC) 58 then l.takeWhile faceC else l.takeWhile faceC ++ [58, 48, 48]
def sV (l : List UInt8) : Int := (Clk.ansV (Clk.cForm (fc l))).tdiv 1000000
def sOk (l : List UInt8) : Bool := Clk.ansE (Clk.cForm (fc l)) == 0
theorem ansV_bd (o : Option (Int × Int × Int × Int)) : 0 ≤ Clk.ansV o ∧ Clk.ansV o ≤ 9000000000000000000 := by
  cases o with
  | none => show _ ≤ (0 : Int) ∧ (0 : Int) ≤ _; omega
  | some t =>
    obtain ⟨h, m, s, u⟩ := t
    show _ ≤ Clk.mkV h m s u ∧ Clk.mkV h m s u ≤ _
    unfold Clk.mkV
    split
    · rename_i k; unfold Clk.mkOk at k; omega
    · omega

theorem seconds_any (l : List UInt8) (hl : l.length ≤ 140737488351232) (w : World) :
    Calls Tryz.prog 195 #[.string ⟨l.toArray⟩] w fun e w' => e = .returned (.tuple #[.int .i64 (sV l), .string ⟨(l.dropWhile faceC).toArray⟩, .bool (sOk l)]) ∧ Below w.heap.size w w' := by
  have hle : (l.takeWhile faceC).length ≤ l.length := (List.takeWhile_sublist _).length_le
  have bd := ansV_bd (Clk.cForm (fc l))
  refine seconds_core ⟨l.toArray⟩ ⟨(l.takeWhile faceC).toArray⟩ ⟨(l.dropWhile faceC).toArray⟩ ⟨(fc l).toArray⟩ (Clk.ansV (Clk.cForm (fc l))) (Clk.ansE (Clk.cForm (fc l))) _ (decide (0 ≤ Lib.indexByte (l.takeWhile faceC) 58)) (by show (l.takeWhile faceC).toArray.size ≤ _; simp; omega) ?_ rfl bd.1 bd.2 (fun w => cut_face l w (by unfold maxLen; omega)) (fun w => Tryz.strings_Contains_one _ 58 w) (fun w => Clk.read_any (fc l) w) w
  unfold fc
  by_cases h : 0 ≤ Lib.indexByte (l.takeWhile faceC) 58
  · rw [if_pos h, decide_eq_true h, if_pos rfl]
  · rw [if_neg h, decide_eq_false h, if_neg (by decide)]
    apply ByteArray.ext
    simp

/-- the block of a result of a time. -/
def ResA (w : World) (b : Nat) (W : World) : Prop :=
  b < W.heap.size ∧ W.cell? ⟨b, 0, none⟩ = some (.int .i64 0) ∧ W.cell? ⟨b, 1, none⟩ = some (.int .u8 0) ∧ W.frozen? ⟨b, 0, none⟩ = false ∧ W.frozen? ⟨b, 1, none⟩ = false ∧ Below w.heap.size w W
theorem ResA.below {w W W1 : World} {b : Nat} (h : ResA w b W) (hb : Below W.heap.size W W1) : ResA w b W1 :=
  ⟨Nat.lt_of_lt_of_le h.1 hb.size, (hb.cell (p := ⟨b, 0, none⟩) h.1).trans h.2.1, (hb.cell (p := ⟨b, 1, none⟩) h.1).trans h.2.2.1, (hb.frozen (p := ⟨b, 0, none⟩) h.1).trans h.2.2.2.1, (hb.frozen (p := ⟨b, 1, none⟩) h.1).trans h.2.2.2.2.1, h.2.2.2.2.2.trans (hb.mono h.2.2.2.2.2.size)⟩
theorem ResA.new (w : World) (t : TypeId) : ResA w w.heap.size (w.alloc (.cells #[.int .i64 0, .int .u8 0] t)) :=
  ⟨by simp, by rw [World.cell?_alloc_at _ _ _ _ rfl]; rfl, by rw [World.cell?_alloc_at _ _ _ _ rfl]; rfl, by rw [World.frozen?_alloc_at _ _ _ _ rfl], by rw [World.frozen?_alloc_at _ _ _ _ rfl], (Below.refl _ _).alloc (Nat.le_refl _) _⟩
theorem two_set {W : World} {b : Nat} {a c x y : Value} (h0 : W.cell? ⟨b, 0, none⟩ = some a) (h1 : W.cell? ⟨b, 1, none⟩ = some c) :
    ((W.setCell ⟨b, 0, none⟩ x).setCell ⟨b, 1, none⟩ y).cell? ⟨b, 0, none⟩ = some x ∧ ((W.setCell ⟨b, 0, none⟩ x).setCell ⟨b, 1, none⟩ y).cell? ⟨b, 1, none⟩ = some y :=
  ⟨(World.cell?_setCell_other _ _ _ _ (adr_ne (by decide))).trans (World.cell?_setCell_same _ _ _ h0), World.cell?_setCell_same _ _ _ ((World.cell?_setCell_other _ _ _ _ (adr_ne (by decide))).trans h1)⟩

end Go.Proofs.YtgnfkkcagbbhmaaGreatDoor
