/- Contract: the reference's era of any fields. -/
import Derived.Test.YtgnfkkcagbbhmaaGreatDoorQpUq
import Derived.Deep.CutBlock
namespace Go.Proofs.YtgnfkkcagbbhmaaGreatDoor
open Go.RowKit Lin Sr
open Sr (gen_any gen_list)
set_option linter.unusedVariables false

/-- what an era's second field says. -/
def EraX (x1 RL : ByteArray) (SV : Int) (ok0 ok1 : Bool) : Prop :=
  (x1 = ⟨#[45]⟩ ∧ RL = ⟨#[]⟩ ∧ SV = 0 ∧ ok1 = ok0) ∨
  ((x1.toList == [45]) = false ∧ (∃ h : 0 < x1.size, isD ((x1[0]'h).toNat : Int) = true) ∧ RL = ⟨#[]⟩ ∧ ∃ E1 : Int, Hid (∀ w : World, Calls Tryz.prog 90 #[.string x1] w fun e w' => e = .returned (.tuple #[.int .i64 SV, .int .i64 E1]) ∧ Below w.heap.size w w') ∧ ok1 = (ok0 && decide (E1 = 0) && decide (SV ≤ 7200))) ∨
  ((x1.toList == [45]) = false ∧ (x1.size = 0 ∨ ∃ h : 0 < x1.size, isD ((x1[0]'h).toNat : Int) = false) ∧ RL = x1 ∧ SV = 0 ∧ ∃ bn : Bool, Hid (∀ w : World, Calls Tryz.prog 16 #[.string x1] w fun e w' => e = .returned (.bool bn) ∧ Below w.heap.size w w') ∧ ok1 = (ok0 && bn))

set_option maxRecDepth 100000 in
set_option maxHeartbeats 4000000 in
theorem rera_few (n c : Nat) (a : Option Addr) (hn : n < 3) (w : World) :
    Calls Tryz.prog 84 #[.slice a n c] w fun e w' => e = .returned (.tuple #[.agg #[.int .i64 0, .string ⟨#[]⟩, .int .i64 0, .string ⟨#[]⟩, .int .i64 0, .int .i64 0, .int .i64 0, .int .i64 0, .int .i64 0, .int .i64 0, .int .u8 0], .bool false]) ∧ Below w.heap.size w w' := by
  have hn' : (n : Int) < 3 := by omega
  have K0 : Hid (BS w [(w.heap.size, [.int .i64 0, .string ⟨#[]⟩, .int .i64 0, .string ⟨#[]⟩, .int .i64 0, .int .i64 0, .int .i64 0, .int .i64 0, .int .i64 0, .int .i64 0, .int .u8 0])] (w.alloc (.cells #[.int .i64 0, .string ⟨#[]⟩, .int .i64 0, .string ⟨#[]⟩, .int .i64 0, .int .i64 0, .int .i64 0, .int .i64 0, .int .i64 0, .int .i64 0, .int .u8 0] 78))) := (BS.start w).new [.int .i64 0, .string ⟨#[]⟩, .int .i64 0, .string ⟨#[]⟩, .int .i64 0, .int .i64 0, .int .i64 0, .int .i64 0, .int .i64 0, .int .i64 0, .int .u8 0] _ rfl
  go_enter Tryz.func84, Tryz.ntmps84
  go_upto_region 2 with fail
  refine gen_to (BS w [(w.heap.size, [.int .i64 0, .string ⟨#[]⟩, .int .i64 0, .string ⟨#[]⟩, .int .i64 0, .int .i64 0, .int .i64 0, .int .i64 0, .int .i64 0, .int .i64 0, .int .u8 0])]) K0.out ?_
  intro W1 K1'
  have K1 : Hid (BS w [(w.heap.size, [.int .i64 0, .string ⟨#[]⟩, .int .i64 0, .string ⟨#[]⟩, .int .i64 0, .int .i64 0, .int .i64 0, .int .i64 0, .int .i64 0, .int .i64 0, .int .u8 0])] W1) := K1'
  clear K1' K0
  have hth := (K1.out.at w.heap.size [.int .i64 0, .string ⟨#[]⟩, .int .i64 0, .string ⟨#[]⟩, .int .i64 0, .int .i64 0, .int .i64 0, .int .i64 0, .int .i64 0, .int .i64 0, .int .u8 0] (by simp)).there
  go_wp2_with (refine wpList_store_mid rfl 78 _ _ rfl w.heap.size 0 #[.int .i64 0, .string ⟨#[]⟩, .int .i64 0, .string ⟨#[]⟩, .int .i64 0, .int .i64 0, .int .i64 0, .int .i64 0, .int .i64 0, .int .i64 0, .int .u8 0] rfl rfl hth (by kernel_rfl) zEra_one ?_; refine gen_list (fun V => Bx V w.heap.size zEra ∧ Below w.heap.size w V) ⟨(K1.out.at w.heap.size [.int .i64 0, .string ⟨#[]⟩, .int .i64 0, .string ⟨#[]⟩, .int .i64 0, .int .i64 0, .int .i64 0, .int .i64 0, .int .i64 0, .int .i64 0, .int .u8 0] (by simp)).setAll zEra rfl, below_setCells (Nat.le_refl _) zEra _ 0 K1.out.1⟩ ?_; rintro w4 ⟨X4, B4⟩)
  have y0 := X4.c 0 rfl
  have y1 := X4.c 1 rfl
  have y2 := X4.c 2 rfl
  have y3 := X4.c 3 rfl
  have y4 := X4.c 4 rfl
  have y5 := X4.c 5 rfl
  have y6 := X4.c 6 rfl
  have y7 := X4.c 7 rfl
  have y8 := X4.c 8 rfl
  have y9 := X4.c 9 rfl
  have y10 := X4.c 10 rfl
  have HB : Hid (Below w.heap.size w w4) := B4
  clear X4 B4
  exact bodyPost_ret (v := .tuple #[.agg #[.int .i64 0, .string ⟨#[]⟩, .int .i64 0, .string ⟨#[]⟩, .int .i64 0, .int .i64 0, .int .i64 0, .int .i64 0, .int .i64 0, .int .i64 0, .int .u8 0], .bool false]) (by simp [results, Tryz.results84, go_sem, y0, y1, y2, y3, y4, y5, y6, y7, y8, y9, y10]) rfl ⟨rfl, HB.out⟩

set_option maxRecDepth 100000 in
set_option maxHeartbeats 4000000 in
theorem era_run (k c : Nat) (hc : k + 3 ≤ c) (x0 x1 x2 : ByteArray) (A0 E0 : Int) (bf : Bool) (RL : ByteArray) (SV : Int) (ok0 ok1 bu : Bool) (uy um ua ub uc ut uz : Int) (g o : Nat) (w : World) (hg : g < w.heap.size)
    (f0 : Hid (w.cell? ⟨g, o, none⟩ = some (.string x0))) (f1 : Hid (w.cell? ⟨g, o + 1, none⟩ = some (.string x1))) (f2 : Hid (w.cell? ⟨g, o + 2, none⟩ = some (.string x2)))
    (A : Option Addr) (hA : Hid ((if c = 3 then some (⟨g, o, none⟩ : Addr) else some ⟨g, o + 3, none⟩) = A))
    (RS : Hid (∀ w : World, Calls Tryz.prog 90 #[.string x0] w fun e w' => e = .returned (.tuple #[.int .i64 A0, .int .i64 E0]) ∧ Below w.heap.size w w'))
    (FM : Hid (∀ w : World, Calls Tryz.prog 114 #[.string x2] w fun e w' => e = .returned (.bool bf) ∧ Below w.heap.size w w'))
    (B0 : Hid ((decide (E0 = 0) && decide (-50400 ≤ A0) && decide (A0 ≤ 50400) && bf) = ok0)) (HX : Hid (EraX x1 RL SV ok0 ok1))
    (UN : Hid (∀ W : World, Below w.heap.size w W → Calls Tryz.prog 115 #[.slice A k (c - 3)] W fun e w' => e = .returned (.tuple #[.agg #[.int .i64 uy, .int .i64 um, .int .i64 ua, .int .i64 ub, .int .i64 uc, .int .i64 ut, .int .u8 uz], .bool bu]) ∧ Below W.heap.size W w')) :
    Calls Tryz.prog 84 #[.slice (some ⟨g, o, none⟩) (k + 3) c] w fun e w' => e = .returned (.tuple #[.agg #[.int .i64 A0, .string RL, .int .i64 SV, .string x2, .int .i64 uy, .int .i64 um, .int .i64 ua, .int .i64 ub, .int .i64 uc, .int .i64 ut, .int .u8 uz], .bool (ok1 && bu)]) ∧ Below w.heap.size w w' := by
  have k0 : (0 : Int) < ((k + 3 : Nat) : Int) := by omega
  have k1 : (1 : Int) < ((k + 3 : Nat) : Int) := by omega
  have k2 : (2 : Int) < ((k + 3 : Nat) : Int) := by omega
  have k3 : ¬ ((k + 3 : Nat) : Int) < 3 := by omega
  have k4 : (3 : Int) ≤ (c : Int) := by omega
  have k5 : ((k + 3 : Nat) : Int) ≤ (c : Int) := by omega
  have k6 : 3 ≤ c := by omega
  have k7 : (3 : Int) ≤ ((k + 3 : Nat) : Int) := by omega
  obtain ⟨r, hr⟩ : ∃ r, r = w.heap.size := ⟨_, rfl⟩
  have K0 : Hid (BS w [(r, [.int .i64 0, .string ⟨#[]⟩, .int .i64 0, .string ⟨#[]⟩, .int .i64 0, .int .i64 0, .int .i64 0, .int .i64 0, .int .i64 0, .int .i64 0, .int .u8 0])] (w.alloc (.cells #[.int .i64 0, .string ⟨#[]⟩, .int .i64 0, .string ⟨#[]⟩, .int .i64 0, .int .i64 0, .int .i64 0, .int .i64 0, .int .i64 0, .int .i64 0, .int .u8 0] 78))) := (BS.start w).new [.int .i64 0, .string ⟨#[]⟩, .int .i64 0, .string ⟨#[]⟩, .int .i64 0, .int .i64 0, .int .i64 0, .int .i64 0, .int .i64 0, .int .i64 0, .int .u8 0] _ hr.symm
  go_enter Tryz.func84, Tryz.ntmps84
  go_upto_region 3 with fail
  rw [← hr]
  refine gen_to (BS w [(r, [.int .i64 0, .string ⟨#[]⟩, .int .i64 0, .string ⟨#[]⟩, .int .i64 0, .int .i64 0, .int .i64 0, .int .i64 0, .int .i64 0, .int .i64 0, .int .u8 0])]) K0.out ?_
  intro W1 K1'
  have K1 : Hid (BS w [(r, [.int .i64 0, .string ⟨#[]⟩, .int .i64 0, .string ⟨#[]⟩, .int .i64 0, .int .i64 0, .int .i64 0, .int .i64 0, .int .i64 0, .int .i64 0, .int .u8 0])] W1) := K1'
  clear K1' K0
  have hwr : w.heap.size ≤ r := by omega
  clear hr
  obtain ⟨x, hx⟩ : ∃ x, x = W1.heap.size := ⟨_, rfl⟩
  have hrx : r < x := by have := (K1.out.at r [.int .i64 0, .string ⟨#[]⟩, .int .i64 0, .string ⟨#[]⟩, .int .i64 0, .int .i64 0, .int .i64 0, .int .i64 0, .int .i64 0, .int .i64 0, .int .u8 0] (by simp)).1; omega
  have f2_ : W1.cell? ⟨g, o + 2, none⟩ = some (.string x2) := (K1.out.1.cell (p := ⟨g, o + 2, none⟩) hg).trans f2.out
  have K2 : Hid (BS w [(x, [.int .i64 0, .string ⟨#[]⟩, .int .i64 0, .string x2, .int .i64 0, .int .i64 0, .int .i64 0, .int .i64 0, .int .i64 0, .int .i64 0, .int .u8 0]), (r, [.int .i64 0, .string ⟨#[]⟩, .int .i64 0, .string ⟨#[]⟩, .int .i64 0, .int .i64 0, .int .i64 0, .int .i64 0, .int .i64 0, .int .i64 0, .int .u8 0])] (W1.alloc (.cells #[.int .i64 0, .string ⟨#[]⟩, .int .i64 0, .string x2, .int .i64 0, .int .i64 0, .int .i64 0, .int .i64 0, .int .i64 0, .int .i64 0, .int .u8 0] 78))) := K1.out.new [.int .i64 0, .string ⟨#[]⟩, .int .i64 0, .string x2, .int .i64 0, .int .i64 0, .int .i64 0, .int .i64 0, .int .i64 0, .int .i64 0, .int .u8 0] _ hx.symm
  go_upto_region 4 with fail
  rw [← hx]
  refine gen_to (BS w [(x, [.int .i64 0, .string ⟨#[]⟩, .int .i64 0, .string x2, .int .i64 0, .int .i64 0, .int .i64 0, .int .i64 0, .int .i64 0, .int .i64 0, .int .u8 0]), (r, [.int .i64 0, .string ⟨#[]⟩, .int .i64 0, .string ⟨#[]⟩, .int .i64 0, .int .i64 0, .int .i64 0, .int .i64 0, .int .i64 0, .int .i64 0, .int .u8 0])]) K2.out ?_
  intro W2 K2b'
  have K2b : Hid (BS w [(x, [.int .i64 0, .string ⟨#[]⟩, .int .i64 0, .string x2, .int .i64 0, .int .i64 0, .int .i64 0, .int .i64 0, .int .i64 0, .int .i64 0, .int .u8 0]), (r, [.int .i64 0, .string ⟨#[]⟩, .int .i64 0, .string ⟨#[]⟩, .int .i64 0, .int .i64 0, .int .i64 0, .int .i64 0, .int .i64 0, .int .i64 0, .int .u8 0])] W2) := K2b'
  clear K2b' K2 K1 f2_ hx
  have f0_ : W2.cell? ⟨g, o, none⟩ = some (.string x0) := (K2b.out.1.cell (p := ⟨g, o, none⟩) hg).trans f0.out
  go_wp2_with fail
  refine (RS.out _).mono ?_
  rintro e W3 ⟨rfl, hb⟩
  have K3 : Hid (BS w [(x, [.int .i64 0, .string ⟨#[]⟩, .int .i64 0, .string x2, .int .i64 0, .int .i64 0, .int .i64 0, .int .i64 0, .int .i64 0, .int .i64 0, .int .u8 0]), (r, [.int .i64 0, .string ⟨#[]⟩, .int .i64 0, .string ⟨#[]⟩, .int .i64 0, .int .i64 0, .int .i64 0, .int .i64 0, .int .i64 0, .int .i64 0, .int .u8 0])] W3) := K2b.out.below hb
  clear f0_ hb K2b RS
  have cx_0 : W3.cell? ⟨x, 0, none⟩ = some (.int .i64 0) := (K3.out.at x [.int .i64 0, .string ⟨#[]⟩, .int .i64 0, .string x2, .int .i64 0, .int .i64 0, .int .i64 0, .int .i64 0, .int .i64 0, .int .i64 0, .int .u8 0] (by simp)).c 0 rfl
  have zx_0 : W3.frozen? ⟨x, 0, none⟩ = false := (K3.out.at x [.int .i64 0, .string ⟨#[]⟩, .int .i64 0, .string x2, .int .i64 0, .int .i64 0, .int .i64 0, .int .i64 0, .int .i64 0, .int .i64 0, .int .u8 0] (by simp)).f 0 rfl
  have K4 : Hid (BS w [(x, [.int .i64 A0, .string ⟨#[]⟩, .int .i64 0, .string x2, .int .i64 0, .int .i64 0, .int .i64 0, .int .i64 0, .int .i64 0, .int .i64 0, .int .u8 0]), (r, [.int .i64 0, .string ⟨#[]⟩, .int .i64 0, .string ⟨#[]⟩, .int .i64 0, .int .i64 0, .int .i64 0, .int .i64 0, .int .i64 0, .int .i64 0, .int .u8 0])] (W3.setCell ⟨x, 0, none⟩ (.int .i64 A0))) := K3.out.set1 0 (.int .i64 A0) (by simp) (by intro x hx; simp only [List.mem_cons, List.not_mem_nil, or_false] at hx; subst hx; simp only []; omega)
  go_upto_region 6 with fail
  refine gen_to (BS w [(x, [.int .i64 A0, .string ⟨#[]⟩, .int .i64 0, .string x2, .int .i64 0, .int .i64 0, .int .i64 0, .int .i64 0, .int .i64 0, .int .i64 0, .int .u8 0]), (r, [.int .i64 0, .string ⟨#[]⟩, .int .i64 0, .string ⟨#[]⟩, .int .i64 0, .int .i64 0, .int .i64 0, .int .i64 0, .int .i64 0, .int .i64 0, .int .u8 0])]) K4.out ?_
  intro W4 K4b'
  have K4b : Hid (BS w [(x, [.int .i64 A0, .string ⟨#[]⟩, .int .i64 0, .string x2, .int .i64 0, .int .i64 0, .int .i64 0, .int .i64 0, .int .i64 0, .int .i64 0, .int .u8 0]), (r, [.int .i64 0, .string ⟨#[]⟩, .int .i64 0, .string ⟨#[]⟩, .int .i64 0, .int .i64 0, .int .i64 0, .int .i64 0, .int .i64 0, .int .i64 0, .int .u8 0])] W4) := K4b'
  clear K4b' K4 K3 cx_0 zx_0
  go_cut [7] (fun v wx => v = .bool ok0 ∧ Hid (BS w [(x, [.int .i64 A0, .string ⟨#[]⟩, .int .i64 0, .string x2, .int .i64 0, .int .i64 0, .int .i64 0, .int .i64 0, .int .i64 0, .int .i64 0, .int .u8 0]), (r, [.int .i64 0, .string ⟨#[]⟩, .int .i64 0, .string ⟨#[]⟩, .int .i64 0, .int .i64 0, .int .i64 0, .int .i64 0, .int .i64 0, .int .i64 0, .int .u8 0])] wx))
  case first =>
    have f2_ : W4.cell? ⟨g, o + 2, none⟩ = some (.string x2) := (K4b.out.1.cell (p := ⟨g, o + 2, none⟩) hg).trans f2.out
    by_cases h1 : E0 = 0
    · have h1b : (E0 == 0) = true := by simp [h1]
      have h1c : Hid (E0 = 0) := h1
      clear h1
      by_cases h2 : -50400 ≤ A0
      · by_cases h3 : A0 ≤ 50400
        · go_wp2_with fail
          refine (FM.out _).mono ?_
          rintro e V1 ⟨rfl, hb⟩
          have KN : Hid (BS w [(x, [.int .i64 A0, .string ⟨#[]⟩, .int .i64 0, .string x2, .int .i64 0, .int .i64 0, .int .i64 0, .int .i64 0, .int .i64 0, .int .i64 0, .int .u8 0]), (r, [.int .i64 0, .string ⟨#[]⟩, .int .i64 0, .string ⟨#[]⟩, .int .i64 0, .int .i64 0, .int .i64 0, .int .i64 0, .int .i64 0, .int .i64 0, .int .u8 0])] V1) := K4b.out.below hb
          clear hb f2_
          go_wp2_with fail
          go_meet
          case rel => exact ⟨by rw [← B0.out, decide_eq_true (show E0 = 0 from h1c.out), decide_eq_true (show -50400 ≤ A0 by omega), decide_eq_true (show A0 ≤ 50400 by omega)]; rfl, KN⟩
        · go_wp2_with fail
          go_meet
          case rel => exact ⟨by rw [← B0.out, decide_eq_false (show ¬ A0 ≤ 50400 by omega), Bool.and_false, Bool.false_and], K4b⟩
      · go_wp2_with fail
        go_meet
        case rel => exact ⟨by rw [← B0.out, decide_eq_false (show ¬ -50400 ≤ A0 by omega), Bool.and_false, Bool.false_and, Bool.false_and], K4b⟩
    · have h1b : (E0 == 0) = false := by simp [h1]
      go_wp2_with fail
      go_meet
      case rel => exact ⟨by rw [← B0.out, decide_eq_false (show ¬ E0 = 0 by omega), Bool.false_and, Bool.false_and, Bool.false_and], K4b⟩
  case rest =>
    obtain ⟨rfl, K5'⟩ := hcut
    have K5 : Hid (BS w [(x, [.int .i64 A0, .string ⟨#[]⟩, .int .i64 0, .string x2, .int .i64 0, .int .i64 0, .int .i64 0, .int .i64 0, .int .i64 0, .int .i64 0, .int .u8 0]), (r, [.int .i64 0, .string ⟨#[]⟩, .int .i64 0, .string ⟨#[]⟩, .int .i64 0, .int .i64 0, .int .i64 0, .int .i64 0, .int .i64 0, .int .i64 0, .int .u8 0])] wc) := K5'
    clear K5' K4b B0 FM
    obtain ⟨W5, hW5⟩ : ∃ W5, W5 = wc := ⟨_, rfl⟩
    rw [← hW5] at K5
    rw [← hW5]
    clear hW5
    go_upto_block 0 with fail
    go_cut [7] (fun v wx => v = .bool ok1 ∧ Hid (BS w [(x, [.int .i64 A0, .string RL, .int .i64 SV, .string x2, .int .i64 0, .int .i64 0, .int .i64 0, .int .i64 0, .int .i64 0, .int .i64 0, .int .u8 0]), (r, [.int .i64 0, .string ⟨#[]⟩, .int .i64 0, .string ⟨#[]⟩, .int .i64 0, .int .i64 0, .int .i64 0, .int .i64 0, .int .i64 0, .int .i64 0, .int .u8 0])] wx))
    case first =>
      have f1_ : W5.cell? ⟨g, o + 1, none⟩ = some (.string x1) := (K5.out.1.cell (p := ⟨g, o + 1, none⟩) hg).trans f1.out
      rcases HX.out with ⟨e1, e2, e3, e4⟩ | ⟨h45, ⟨hz, hd⟩, e2, E1, RS1, e4⟩ | ⟨h45, hz, e2, e3, bn, NA, e4⟩
      · subst e1 e2 e3
        have hd : ((⟨#[45]⟩ : ByteArray).toList == [45]) = true := by rw [Lib.toList_data]; rfl
        go_wp2_with fail
        go_meet
        case rel => exact ⟨by rw [e4], K5⟩
      · clear HX
        subst e2
        have hzI : (0 : Int) < (x1.size : Int) := by omega
        obtain ⟨R0, hR0⟩ : ∃ R0 : Int, ((x1[0]'hz).toNat : Int) = R0 := ⟨_, rfl⟩
        rw [hR0] at hd
        go_wp2_with fail
        refine (qdigit_any R0 _).mono ?_
        rintro e V1 ⟨rfl, hw⟩
        rw [hw, hd]
        clear hw V1 hR0 hd
        go_wp2_with fail
        refine (RS1.out _).mono ?_
        rintro e V2 ⟨rfl, hb⟩
        have K6 : Hid (BS w [(x, [.int .i64 A0, .string ⟨#[]⟩, .int .i64 0, .string x2, .int .i64 0, .int .i64 0, .int .i64 0, .int .i64 0, .int .i64 0, .int .i64 0, .int .u8 0]), (r, [.int .i64 0, .string ⟨#[]⟩, .int .i64 0, .string ⟨#[]⟩, .int .i64 0, .int .i64 0, .int .i64 0, .int .i64 0, .int .i64 0, .int .i64 0, .int .u8 0])] V2) := K5.out.below hb
        clear f1_ hb K5 RS1
        have cx_2 : V2.cell? ⟨x, 2, none⟩ = some (.int .i64 0) := (K6.out.at x [.int .i64 A0, .string ⟨#[]⟩, .int .i64 0, .string x2, .int .i64 0, .int .i64 0, .int .i64 0, .int .i64 0, .int .i64 0, .int .i64 0, .int .u8 0] (by simp)).c 2 rfl
        have zx_2 : V2.frozen? ⟨x, 2, none⟩ = false := (K6.out.at x [.int .i64 A0, .string ⟨#[]⟩, .int .i64 0, .string x2, .int .i64 0, .int .i64 0, .int .i64 0, .int .i64 0, .int .i64 0, .int .i64 0, .int .u8 0] (by simp)).f 2 rfl
        have K7 : Hid (BS w [(x, [.int .i64 A0, .string ⟨#[]⟩, .int .i64 SV, .string x2, .int .i64 0, .int .i64 0, .int .i64 0, .int .i64 0, .int .i64 0, .int .i64 0, .int .u8 0]), (r, [.int .i64 0, .string ⟨#[]⟩, .int .i64 0, .string ⟨#[]⟩, .int .i64 0, .int .i64 0, .int .i64 0, .int .i64 0, .int .i64 0, .int .i64 0, .int .u8 0])] (V2.setCell ⟨x, 2, none⟩ (.int .i64 SV))) := K6.out.set1 2 (.int .i64 SV) (by simp) (by intro x hx; simp only [List.mem_cons, List.not_mem_nil, or_false] at hx; subst hx; simp only []; omega)
        go_upto_region 13 with fail
        refine gen_to (BS w [(x, [.int .i64 A0, .string ⟨#[]⟩, .int .i64 SV, .string x2, .int .i64 0, .int .i64 0, .int .i64 0, .int .i64 0, .int .i64 0, .int .i64 0, .int .u8 0]), (r, [.int .i64 0, .string ⟨#[]⟩, .int .i64 0, .string ⟨#[]⟩, .int .i64 0, .int .i64 0, .int .i64 0, .int .i64 0, .int .i64 0, .int .i64 0, .int .u8 0])]) K7.out ?_
        intro V3 K8'
        have K8 : Hid (BS w [(x, [.int .i64 A0, .string ⟨#[]⟩, .int .i64 SV, .string x2, .int .i64 0, .int .i64 0, .int .i64 0, .int .i64 0, .int .i64 0, .int .i64 0, .int .u8 0]), (r, [.int .i64 0, .string ⟨#[]⟩, .int .i64 0, .string ⟨#[]⟩, .int .i64 0, .int .i64 0, .int .i64 0, .int .i64 0, .int .i64 0, .int .i64 0, .int .u8 0])] V3) := K8'
        clear K8' K7 K6 cx_2 zx_2
        cases ok0
        · go_wp2_with fail
          go_meet
          case rel => exact ⟨by rw [e4, Bool.false_and, Bool.false_and], K8⟩
        · by_cases q1 : E1 = 0
          · have q1b : (E1 == 0) = true := by simp [q1]
            by_cases q2 : SV ≤ 7200
            · go_wp2_with fail
              go_meet
              case rel => exact ⟨by rw [e4, decide_eq_true (show E1 = 0 by omega), decide_eq_true (show SV ≤ 7200 by omega)]; rfl, K8⟩
            · go_wp2_with fail
              go_meet
              case rel => exact ⟨by rw [e4, decide_eq_false (show ¬ SV ≤ 7200 by omega), Bool.and_false], K8⟩
          · have q1b : (E1 == 0) = false := by simp [q1]
            go_wp2_with fail
            go_meet
            case rel => exact ⟨by rw [e4, decide_eq_false (show ¬ E1 = 0 by omega)]; rfl, K8⟩
      · clear HX
        subst e2 e3
        have key : ∀ (z : Prop), z → True := fun _ _ => trivial
        clear key
        rcases hz with hz | ⟨hz, hd⟩
        · have hzI : ¬ (0 : Int) < (RL.size : Int) := by omega
          have cx_1 : W5.cell? ⟨x, 1, none⟩ = some (.string ⟨#[]⟩) := (K5.out.at x [.int .i64 A0, .string ⟨#[]⟩, .int .i64 0, .string x2, .int .i64 0, .int .i64 0, .int .i64 0, .int .i64 0, .int .i64 0, .int .i64 0, .int .u8 0] (by simp)).c 1 rfl
          have zx_1 : W5.frozen? ⟨x, 1, none⟩ = false := (K5.out.at x [.int .i64 A0, .string ⟨#[]⟩, .int .i64 0, .string x2, .int .i64 0, .int .i64 0, .int .i64 0, .int .i64 0, .int .i64 0, .int .i64 0, .int .u8 0] (by simp)).f 1 rfl
          have K7 : Hid (BS w [(x, [.int .i64 A0, .string RL, .int .i64 0, .string x2, .int .i64 0, .int .i64 0, .int .i64 0, .int .i64 0, .int .i64 0, .int .i64 0, .int .u8 0]), (r, [.int .i64 0, .string ⟨#[]⟩, .int .i64 0, .string ⟨#[]⟩, .int .i64 0, .int .i64 0, .int .i64 0, .int .i64 0, .int .i64 0, .int .i64 0, .int .u8 0])] (W5.setCell ⟨x, 1, none⟩ (.string RL))) := K5.out.set1 1 (.string RL) (by simp) (by intro x hx; simp only [List.mem_cons, List.not_mem_nil, or_false] at hx; subst hx; simp only []; omega)
          go_upto_region 8 with fail
          refine gen_to (BS w [(x, [.int .i64 A0, .string RL, .int .i64 0, .string x2, .int .i64 0, .int .i64 0, .int .i64 0, .int .i64 0, .int .i64 0, .int .i64 0, .int .u8 0]), (r, [.int .i64 0, .string ⟨#[]⟩, .int .i64 0, .string ⟨#[]⟩, .int .i64 0, .int .i64 0, .int .i64 0, .int .i64 0, .int .i64 0, .int .i64 0, .int .u8 0])]) K7.out ?_
          intro V3 K8'
          have K8 : Hid (BS w [(x, [.int .i64 A0, .string RL, .int .i64 0, .string x2, .int .i64 0, .int .i64 0, .int .i64 0, .int .i64 0, .int .i64 0, .int .i64 0, .int .u8 0]), (r, [.int .i64 0, .string ⟨#[]⟩, .int .i64 0, .string ⟨#[]⟩, .int .i64 0, .int .i64 0, .int .i64 0, .int .i64 0, .int .i64 0, .int .i64 0, .int .u8 0])] V3) := K8'
          clear K8' K7 f1_ K5 cx_1 zx_1
          have f1_ : V3.cell? ⟨g, o + 1, none⟩ = some (.string RL) := (K8.out.1.cell (p := ⟨g, o + 1, none⟩) hg).trans f1.out
          cases ok0
          · go_wp2_with fail
            go_meet
            case rel => exact ⟨by rw [e4, Bool.false_and], K8⟩
          · go_wp2_with fail
            refine (NA.out _).mono ?_
            rintro e V4 ⟨rfl, hb⟩
            have K9 : Hid (BS w [(x, [.int .i64 A0, .string RL, .int .i64 0, .string x2, .int .i64 0, .int .i64 0, .int .i64 0, .int .i64 0, .int .i64 0, .int .i64 0, .int .u8 0]), (r, [.int .i64 0, .string ⟨#[]⟩, .int .i64 0, .string ⟨#[]⟩, .int .i64 0, .int .i64 0, .int .i64 0, .int .i64 0, .int .i64 0, .int .i64 0, .int .u8 0])] V4) := K8.out.below hb
            clear hb f1_ K8
            go_wp2_with fail
            go_meet
            case rel => exact ⟨by rw [e4, Bool.true_and], K9⟩
        · have hzI : (0 : Int) < (RL.size : Int) := by omega
          obtain ⟨R0, hR0⟩ : ∃ R0 : Int, ((RL[0]'hz).toNat : Int) = R0 := ⟨_, rfl⟩
          rw [hR0] at hd
          go_wp2_with fail
          refine (qdigit_any R0 _).mono ?_
          rintro e V1 ⟨rfl, hw⟩
          rw [hw, hd]
          clear hw V1 hR0 hd
          have cx_1 : W5.cell? ⟨x, 1, none⟩ = some (.string ⟨#[]⟩) := (K5.out.at x [.int .i64 A0, .string ⟨#[]⟩, .int .i64 0, .string x2, .int .i64 0, .int .i64 0, .int .i64 0, .int .i64 0, .int .i64 0, .int .i64 0, .int .u8 0] (by simp)).c 1 rfl
          have zx_1 : W5.frozen? ⟨x, 1, none⟩ = false := (K5.out.at x [.int .i64 A0, .string ⟨#[]⟩, .int .i64 0, .string x2, .int .i64 0, .int .i64 0, .int .i64 0, .int .i64 0, .int .i64 0, .int .i64 0, .int .u8 0] (by simp)).f 1 rfl
          have K7 : Hid (BS w [(x, [.int .i64 A0, .string RL, .int .i64 0, .string x2, .int .i64 0, .int .i64 0, .int .i64 0, .int .i64 0, .int .i64 0, .int .i64 0, .int .u8 0]), (r, [.int .i64 0, .string ⟨#[]⟩, .int .i64 0, .string ⟨#[]⟩, .int .i64 0, .int .i64 0, .int .i64 0, .int .i64 0, .int .i64 0, .int .i64 0, .int .u8 0])] (W5.setCell ⟨x, 1, none⟩ (.string RL))) := K5.out.set1 1 (.string RL) (by simp) (by intro x hx; simp only [List.mem_cons, List.not_mem_nil, or_false] at hx; subst hx; simp only []; omega)
          go_upto_region 8 with fail
          refine gen_to (BS w [(x, [.int .i64 A0, .string RL, .int .i64 0, .string x2, .int .i64 0, .int .i64 0, .int .i64 0, .int .i64 0, .int .i64 0, .int .i64 0, .int .u8 0]), (r, [.int .i64 0, .string ⟨#[]⟩, .int .i64 0, .string ⟨#[]⟩, .int .i64 0, .int .i64 0, .int .i64 0, .int .i64 0, .int .i64 0, .int .i64 0, .int .u8 0])]) K7.out ?_
          intro V3 K8'
          have K8 : Hid (BS w [(x, [.int .i64 A0, .string RL, .int .i64 0, .string x2, .int .i64 0, .int .i64 0, .int .i64 0, .int .i64 0, .int .i64 0, .int .i64 0, .int .u8 0]), (r, [.int .i64 0, .string ⟨#[]⟩, .int .i64 0, .string ⟨#[]⟩, .int .i64 0, .int .i64 0, .int .i64 0, .int .i64 0, .int .i64 0, .int .i64 0, .int .u8 0])] V3) := K8'
          clear K8' K7 f1_ K5 cx_1 zx_1
          have f1_ : V3.cell? ⟨g, o + 1, none⟩ = some (.string RL) := (K8.out.1.cell (p := ⟨g, o + 1, none⟩) hg).trans f1.out
          cases ok0
          · go_wp2_with fail
            go_meet
            case rel => exact ⟨by rw [e4, Bool.false_and], K8⟩
          · go_wp2_with fail
            refine (NA.out _).mono ?_
            rintro e V4 ⟨rfl, hb⟩
            have K9 : Hid (BS w [(x, [.int .i64 A0, .string RL, .int .i64 0, .string x2, .int .i64 0, .int .i64 0, .int .i64 0, .int .i64 0, .int .i64 0, .int .i64 0, .int .u8 0]), (r, [.int .i64 0, .string ⟨#[]⟩, .int .i64 0, .string ⟨#[]⟩, .int .i64 0, .int .i64 0, .int .i64 0, .int .i64 0, .int .i64 0, .int .i64 0, .int .u8 0])] V4) := K8.out.below hb
            clear hb f1_ K8
            go_wp2_with fail
            go_meet
            case rel => exact ⟨by rw [e4, Bool.true_and], K9⟩
    case rest =>
      obtain ⟨rfl, K6'⟩ := hcut
      have K6 : Hid (BS w [(x, [.int .i64 A0, .string RL, .int .i64 SV, .string x2, .int .i64 0, .int .i64 0, .int .i64 0, .int .i64 0, .int .i64 0, .int .i64 0, .int .u8 0]), (r, [.int .i64 0, .string ⟨#[]⟩, .int .i64 0, .string ⟨#[]⟩, .int .i64 0, .int .i64 0, .int .i64 0, .int .i64 0, .int .i64 0, .int .i64 0, .int .u8 0])] wc) := K6'
      clear K6' K5 HX
      obtain ⟨W6, hW6⟩ : ∃ W6, W6 = wc := ⟨_, rfl⟩
      rw [← hW6] at K6
      rw [← hW6]
      clear hW6
      have hA2 : _ = _ := hA.out
      go_wp2_with fail
      refine (UN.out _ K6.out.1).mono ?_
      rintro e W7 ⟨rfl, hb⟩
      have K7 : Hid (BS w [(x, [.int .i64 A0, .string RL, .int .i64 SV, .string x2, .int .i64 0, .int .i64 0, .int .i64 0, .int .i64 0, .int .i64 0, .int .i64 0, .int .u8 0]), (r, [.int .i64 0, .string ⟨#[]⟩, .int .i64 0, .string ⟨#[]⟩, .int .i64 0, .int .i64 0, .int .i64 0, .int .i64 0, .int .i64 0, .int .i64 0, .int .u8 0])] W7) := K6.out.below hb
      clear hb K6 UN hA2
      obtain ⟨y, hy⟩ : ∃ y, y = W7.heap.size := ⟨_, rfl⟩
      have hry : r < y := by have := (K7.out.at r [.int .i64 0, .string ⟨#[]⟩, .int .i64 0, .string ⟨#[]⟩, .int .i64 0, .int .i64 0, .int .i64 0, .int .i64 0, .int .i64 0, .int .i64 0, .int .u8 0] (by simp)).1; omega
      have hxy : x < y := by have := (K7.out.at x [.int .i64 A0, .string RL, .int .i64 SV, .string x2, .int .i64 0, .int .i64 0, .int .i64 0, .int .i64 0, .int .i64 0, .int .i64 0, .int .u8 0] (by simp)).1; omega
      have KM : Hid (BS w [(y, [.int .i64 uy, .int .i64 um, .int .i64 ua, .int .i64 ub, .int .i64 uc, .int .i64 ut, .int .u8 uz]), (x, [.int .i64 A0, .string RL, .int .i64 SV, .string x2, .int .i64 0, .int .i64 0, .int .i64 0, .int .i64 0, .int .i64 0, .int .i64 0, .int .u8 0]), (r, [.int .i64 0, .string ⟨#[]⟩, .int .i64 0, .string ⟨#[]⟩, .int .i64 0, .int .i64 0, .int .i64 0, .int .i64 0, .int .i64 0, .int .i64 0, .int .u8 0])] (W7.alloc (.cells #[.int .i64 uy, .int .i64 um, .int .i64 ua, .int .i64 ub, .int .i64 uc, .int .i64 ut, .int .u8 uz] 76))) := K7.out.new [.int .i64 uy, .int .i64 um, .int .i64 ua, .int .i64 ub, .int .i64 uc, .int .i64 ut, .int .u8 uz] _ hy.symm
      go_upto_region 15 with fail
      rw [← hy]
      refine gen_to (BS w [(x, [.int .i64 A0, .string RL, .int .i64 SV, .string x2, .int .i64 0, .int .i64 0, .int .i64 0, .int .i64 0, .int .i64 0, .int .i64 0, .int .u8 0]), (y, [.int .i64 uy, .int .i64 um, .int .i64 ua, .int .i64 ub, .int .i64 uc, .int .i64 ut, .int .u8 uz]), (r, [.int .i64 0, .string ⟨#[]⟩, .int .i64 0, .string ⟨#[]⟩, .int .i64 0, .int .i64 0, .int .i64 0, .int .i64 0, .int .i64 0, .int .i64 0, .int .u8 0])]) KM.out.swap ?_
      intro W8 K8'
      have K8 : Hid (BS w [(x, [.int .i64 A0, .string RL, .int .i64 SV, .string x2, .int .i64 0, .int .i64 0, .int .i64 0, .int .i64 0, .int .i64 0, .int .i64 0, .int .u8 0]), (y, [.int .i64 uy, .int .i64 um, .int .i64 ua, .int .i64 ub, .int .i64 uc, .int .i64 ut, .int .u8 uz]), (r, [.int .i64 0, .string ⟨#[]⟩, .int .i64 0, .string ⟨#[]⟩, .int .i64 0, .int .i64 0, .int .i64 0, .int .i64 0, .int .i64 0, .int .i64 0, .int .u8 0])] W8) := K8'
      clear K8' KM K7 hy
      have cx_4 : W8.cell? ⟨x, 4, none⟩ = some (.int .i64 0) := (K8.out.at x [.int .i64 A0, .string RL, .int .i64 SV, .string x2, .int .i64 0, .int .i64 0, .int .i64 0, .int .i64 0, .int .i64 0, .int .i64 0, .int .u8 0] (by simp)).c 4 rfl
      have zx_4 : W8.frozen? ⟨x, 4, none⟩ = false := (K8.out.at x [.int .i64 A0, .string RL, .int .i64 SV, .string x2, .int .i64 0, .int .i64 0, .int .i64 0, .int .i64 0, .int .i64 0, .int .i64 0, .int .u8 0] (by simp)).f 4 rfl
      have cx_5 : W8.cell? ⟨x, 5, none⟩ = some (.int .i64 0) := (K8.out.at x [.int .i64 A0, .string RL, .int .i64 SV, .string x2, .int .i64 0, .int .i64 0, .int .i64 0, .int .i64 0, .int .i64 0, .int .i64 0, .int .u8 0] (by simp)).c 5 rfl
      have zx_5 : W8.frozen? ⟨x, 5, none⟩ = false := (K8.out.at x [.int .i64 A0, .string RL, .int .i64 SV, .string x2, .int .i64 0, .int .i64 0, .int .i64 0, .int .i64 0, .int .i64 0, .int .i64 0, .int .u8 0] (by simp)).f 5 rfl
      have cx_6 : W8.cell? ⟨x, 6, none⟩ = some (.int .i64 0) := (K8.out.at x [.int .i64 A0, .string RL, .int .i64 SV, .string x2, .int .i64 0, .int .i64 0, .int .i64 0, .int .i64 0, .int .i64 0, .int .i64 0, .int .u8 0] (by simp)).c 6 rfl
      have zx_6 : W8.frozen? ⟨x, 6, none⟩ = false := (K8.out.at x [.int .i64 A0, .string RL, .int .i64 SV, .string x2, .int .i64 0, .int .i64 0, .int .i64 0, .int .i64 0, .int .i64 0, .int .i64 0, .int .u8 0] (by simp)).f 6 rfl
      have cx_7 : W8.cell? ⟨x, 7, none⟩ = some (.int .i64 0) := (K8.out.at x [.int .i64 A0, .string RL, .int .i64 SV, .string x2, .int .i64 0, .int .i64 0, .int .i64 0, .int .i64 0, .int .i64 0, .int .i64 0, .int .u8 0] (by simp)).c 7 rfl
      have zx_7 : W8.frozen? ⟨x, 7, none⟩ = false := (K8.out.at x [.int .i64 A0, .string RL, .int .i64 SV, .string x2, .int .i64 0, .int .i64 0, .int .i64 0, .int .i64 0, .int .i64 0, .int .i64 0, .int .u8 0] (by simp)).f 7 rfl
      have cx_8 : W8.cell? ⟨x, 8, none⟩ = some (.int .i64 0) := (K8.out.at x [.int .i64 A0, .string RL, .int .i64 SV, .string x2, .int .i64 0, .int .i64 0, .int .i64 0, .int .i64 0, .int .i64 0, .int .i64 0, .int .u8 0] (by simp)).c 8 rfl
      have zx_8 : W8.frozen? ⟨x, 8, none⟩ = false := (K8.out.at x [.int .i64 A0, .string RL, .int .i64 SV, .string x2, .int .i64 0, .int .i64 0, .int .i64 0, .int .i64 0, .int .i64 0, .int .i64 0, .int .u8 0] (by simp)).f 8 rfl
      have cx_9 : W8.cell? ⟨x, 9, none⟩ = some (.int .i64 0) := (K8.out.at x [.int .i64 A0, .string RL, .int .i64 SV, .string x2, .int .i64 0, .int .i64 0, .int .i64 0, .int .i64 0, .int .i64 0, .int .i64 0, .int .u8 0] (by simp)).c 9 rfl
      have zx_9 : W8.frozen? ⟨x, 9, none⟩ = false := (K8.out.at x [.int .i64 A0, .string RL, .int .i64 SV, .string x2, .int .i64 0, .int .i64 0, .int .i64 0, .int .i64 0, .int .i64 0, .int .i64 0, .int .u8 0] (by simp)).f 9 rfl
      have cx_10 : W8.cell? ⟨x, 10, none⟩ = some (.int .u8 0) := (K8.out.at x [.int .i64 A0, .string RL, .int .i64 SV, .string x2, .int .i64 0, .int .i64 0, .int .i64 0, .int .i64 0, .int .i64 0, .int .i64 0, .int .u8 0] (by simp)).c 10 rfl
      have zx_10 : W8.frozen? ⟨x, 10, none⟩ = false := (K8.out.at x [.int .i64 A0, .string RL, .int .i64 SV, .string x2, .int .i64 0, .int .i64 0, .int .i64 0, .int .i64 0, .int .i64 0, .int .i64 0, .int .u8 0] (by simp)).f 10 rfl
      have cy_0 : W8.cell? ⟨y, 0, none⟩ = some (.int .i64 uy) := (K8.out.at y [.int .i64 uy, .int .i64 um, .int .i64 ua, .int .i64 ub, .int .i64 uc, .int .i64 ut, .int .u8 uz] (by simp)).c 0 rfl
      have cy_1 : W8.cell? ⟨y, 1, none⟩ = some (.int .i64 um) := (K8.out.at y [.int .i64 uy, .int .i64 um, .int .i64 ua, .int .i64 ub, .int .i64 uc, .int .i64 ut, .int .u8 uz] (by simp)).c 1 rfl
      have cy_2 : W8.cell? ⟨y, 2, none⟩ = some (.int .i64 ua) := (K8.out.at y [.int .i64 uy, .int .i64 um, .int .i64 ua, .int .i64 ub, .int .i64 uc, .int .i64 ut, .int .u8 uz] (by simp)).c 2 rfl
      have cy_3 : W8.cell? ⟨y, 3, none⟩ = some (.int .i64 ub) := (K8.out.at y [.int .i64 uy, .int .i64 um, .int .i64 ua, .int .i64 ub, .int .i64 uc, .int .i64 ut, .int .u8 uz] (by simp)).c 3 rfl
      have cy_4 : W8.cell? ⟨y, 4, none⟩ = some (.int .i64 uc) := (K8.out.at y [.int .i64 uy, .int .i64 um, .int .i64 ua, .int .i64 ub, .int .i64 uc, .int .i64 ut, .int .u8 uz] (by simp)).c 4 rfl
      have cy_5 : W8.cell? ⟨y, 5, none⟩ = some (.int .i64 ut) := (K8.out.at y [.int .i64 uy, .int .i64 um, .int .i64 ua, .int .i64 ub, .int .i64 uc, .int .i64 ut, .int .u8 uz] (by simp)).c 5 rfl
      have cy_6 : W8.cell? ⟨y, 6, none⟩ = some (.int .u8 uz) := (K8.out.at y [.int .i64 uy, .int .i64 um, .int .i64 ua, .int .i64 ub, .int .i64 uc, .int .i64 ut, .int .u8 uz] (by simp)).c 6 rfl
      have KM : Hid (BS w [(x, [.int .i64 A0, .string RL, .int .i64 SV, .string x2, .int .i64 uy, .int .i64 um, .int .i64 ua, .int .i64 ub, .int .i64 uc, .int .i64 ut, .int .u8 uz]), (y, [.int .i64 uy, .int .i64 um, .int .i64 ua, .int .i64 ub, .int .i64 uc, .int .i64 ut, .int .u8 uz]), (r, [.int .i64 0, .string ⟨#[]⟩, .int .i64 0, .string ⟨#[]⟩, .int .i64 0, .int .i64 0, .int .i64 0, .int .i64 0, .int .i64 0, .int .i64 0, .int .u8 0])] (((((((W8.setCell ⟨x, 4, none⟩ (.int .i64 uy)).setCell ⟨x, 5, none⟩ (.int .i64 um)).setCell ⟨x, 6, none⟩ (.int .i64 ua)).setCell ⟨x, 7, none⟩ (.int .i64 ub)).setCell ⟨x, 8, none⟩ (.int .i64 uc)).setCell ⟨x, 9, none⟩ (.int .i64 ut)).setCell ⟨x, 10, none⟩ (.int .u8 uz))) := (((((((K8.out.set1 4 (.int .i64 uy) (by simp) (by intro x hx; simp only [List.mem_cons, List.not_mem_nil, or_false] at hx; rcases hx with rfl | rfl <;> simp only [] <;> omega)).set1 5 (.int .i64 um) (by simp) (by intro x hx; simp only [List.mem_cons, List.not_mem_nil, or_false] at hx; rcases hx with rfl | rfl <;> simp only [] <;> omega)).set1 6 (.int .i64 ua) (by simp) (by intro x hx; simp only [List.mem_cons, List.not_mem_nil, or_false] at hx; rcases hx with rfl | rfl <;> simp only [] <;> omega)).set1 7 (.int .i64 ub) (by simp) (by intro x hx; simp only [List.mem_cons, List.not_mem_nil, or_false] at hx; rcases hx with rfl | rfl <;> simp only [] <;> omega)).set1 8 (.int .i64 uc) (by simp) (by intro x hx; simp only [List.mem_cons, List.not_mem_nil, or_false] at hx; rcases hx with rfl | rfl <;> simp only [] <;> omega)).set1 9 (.int .i64 ut) (by simp) (by intro x hx; simp only [List.mem_cons, List.not_mem_nil, or_false] at hx; rcases hx with rfl | rfl <;> simp only [] <;> omega)).set1 10 (.int .u8 uz) (by simp) (by intro x hx; simp only [List.mem_cons, List.not_mem_nil, or_false] at hx; rcases hx with rfl | rfl <;> simp only [] <;> omega))
      have KM2 : Hid (BS w [(x, [.int .i64 A0, .string RL, .int .i64 SV, .string x2, .int .i64 uy, .int .i64 um, .int .i64 ua, .int .i64 ub, .int .i64 uc, .int .i64 ut, .int .u8 uz]), (r, [.int .i64 0, .string ⟨#[]⟩, .int .i64 0, .string ⟨#[]⟩, .int .i64 0, .int .i64 0, .int .i64 0, .int .i64 0, .int .i64 0, .int .i64 0, .int .u8 0])] (((((((W8.setCell ⟨x, 4, none⟩ (.int .i64 uy)).setCell ⟨x, 5, none⟩ (.int .i64 um)).setCell ⟨x, 6, none⟩ (.int .i64 ua)).setCell ⟨x, 7, none⟩ (.int .i64 ub)).setCell ⟨x, 8, none⟩ (.int .i64 uc)).setCell ⟨x, 9, none⟩ (.int .i64 ut)).setCell ⟨x, 10, none⟩ (.int .u8 uz))) := KM.out.perm (by intro x hx; simp only [List.mem_cons, List.not_mem_nil, or_false] at hx ⊢; rcases hx with h | h <;> simp [h])
      go_upto_region 16 with fail
      refine gen_to (BS w [(x, [.int .i64 A0, .string RL, .int .i64 SV, .string x2, .int .i64 uy, .int .i64 um, .int .i64 ua, .int .i64 ub, .int .i64 uc, .int .i64 ut, .int .u8 uz]), (r, [.int .i64 0, .string ⟨#[]⟩, .int .i64 0, .string ⟨#[]⟩, .int .i64 0, .int .i64 0, .int .i64 0, .int .i64 0, .int .i64 0, .int .i64 0, .int .u8 0])]) KM2.out ?_
      intro W9 K9'
      have K9 : Hid (BS w [(x, [.int .i64 A0, .string RL, .int .i64 SV, .string x2, .int .i64 uy, .int .i64 um, .int .i64 ua, .int .i64 ub, .int .i64 uc, .int .i64 ut, .int .u8 uz]), (r, [.int .i64 0, .string ⟨#[]⟩, .int .i64 0, .string ⟨#[]⟩, .int .i64 0, .int .i64 0, .int .i64 0, .int .i64 0, .int .i64 0, .int .i64 0, .int .u8 0])] W9) := K9'
      clear K9' KM2 KM K8 cx_4 zx_4 cx_5 zx_5 cx_6 zx_6 cx_7 zx_7 cx_8 zx_8 cx_9 zx_9 cx_10 zx_10 cy_0 cy_1 cy_2 cy_3 cy_4 cy_5 cy_6
      have cx_0 : W9.cell? ⟨x, 0, none⟩ = some (.int .i64 A0) := (K9.out.at x [.int .i64 A0, .string RL, .int .i64 SV, .string x2, .int .i64 uy, .int .i64 um, .int .i64 ua, .int .i64 ub, .int .i64 uc, .int .i64 ut, .int .u8 uz] (by simp)).c 0 rfl
      have cx_1 : W9.cell? ⟨x, 1, none⟩ = some (.string RL) := (K9.out.at x [.int .i64 A0, .string RL, .int .i64 SV, .string x2, .int .i64 uy, .int .i64 um, .int .i64 ua, .int .i64 ub, .int .i64 uc, .int .i64 ut, .int .u8 uz] (by simp)).c 1 rfl
      have cx_2 : W9.cell? ⟨x, 2, none⟩ = some (.int .i64 SV) := (K9.out.at x [.int .i64 A0, .string RL, .int .i64 SV, .string x2, .int .i64 uy, .int .i64 um, .int .i64 ua, .int .i64 ub, .int .i64 uc, .int .i64 ut, .int .u8 uz] (by simp)).c 2 rfl
      have cx_3 : W9.cell? ⟨x, 3, none⟩ = some (.string x2) := (K9.out.at x [.int .i64 A0, .string RL, .int .i64 SV, .string x2, .int .i64 uy, .int .i64 um, .int .i64 ua, .int .i64 ub, .int .i64 uc, .int .i64 ut, .int .u8 uz] (by simp)).c 3 rfl
      have cx_4 : W9.cell? ⟨x, 4, none⟩ = some (.int .i64 uy) := (K9.out.at x [.int .i64 A0, .string RL, .int .i64 SV, .string x2, .int .i64 uy, .int .i64 um, .int .i64 ua, .int .i64 ub, .int .i64 uc, .int .i64 ut, .int .u8 uz] (by simp)).c 4 rfl
      have cx_5 : W9.cell? ⟨x, 5, none⟩ = some (.int .i64 um) := (K9.out.at x [.int .i64 A0, .string RL, .int .i64 SV, .string x2, .int .i64 uy, .int .i64 um, .int .i64 ua, .int .i64 ub, .int .i64 uc, .int .i64 ut, .int .u8 uz] (by simp)).c 5 rfl
      have cx_6 : W9.cell? ⟨x, 6, none⟩ = some (.int .i64 ua) := (K9.out.at x [.int .i64 A0, .string RL, .int .i64 SV, .string x2, .int .i64 uy, .int .i64 um, .int .i64 ua, .int .i64 ub, .int .i64 uc, .int .i64 ut, .int .u8 uz] (by simp)).c 6 rfl
      have cx_7 : W9.cell? ⟨x, 7, none⟩ = some (.int .i64 ub) := (K9.out.at x [.int .i64 A0, .string RL, .int .i64 SV, .string x2, .int .i64 uy, .int .i64 um, .int .i64 ua, .int .i64 ub, .int .i64 uc, .int .i64 ut, .int .u8 uz] (by simp)).c 7 rfl
      have cx_8 : W9.cell? ⟨x, 8, none⟩ = some (.int .i64 uc) := (K9.out.at x [.int .i64 A0, .string RL, .int .i64 SV, .string x2, .int .i64 uy, .int .i64 um, .int .i64 ua, .int .i64 ub, .int .i64 uc, .int .i64 ut, .int .u8 uz] (by simp)).c 8 rfl
      have cx_9 : W9.cell? ⟨x, 9, none⟩ = some (.int .i64 ut) := (K9.out.at x [.int .i64 A0, .string RL, .int .i64 SV, .string x2, .int .i64 uy, .int .i64 um, .int .i64 ua, .int .i64 ub, .int .i64 uc, .int .i64 ut, .int .u8 uz] (by simp)).c 9 rfl
      have cx_10 : W9.cell? ⟨x, 10, none⟩ = some (.int .u8 uz) := (K9.out.at x [.int .i64 A0, .string RL, .int .i64 SV, .string x2, .int .i64 uy, .int .i64 um, .int .i64 ua, .int .i64 ub, .int .i64 uc, .int .i64 ut, .int .u8 uz] (by simp)).c 10 rfl
      have cr_0 : W9.cell? ⟨r, 0, none⟩ = some (.int .i64 0) := (K9.out.at r [.int .i64 0, .string ⟨#[]⟩, .int .i64 0, .string ⟨#[]⟩, .int .i64 0, .int .i64 0, .int .i64 0, .int .i64 0, .int .i64 0, .int .i64 0, .int .u8 0] (by simp)).c 0 rfl
      have zr_0 : W9.frozen? ⟨r, 0, none⟩ = false := (K9.out.at r [.int .i64 0, .string ⟨#[]⟩, .int .i64 0, .string ⟨#[]⟩, .int .i64 0, .int .i64 0, .int .i64 0, .int .i64 0, .int .i64 0, .int .i64 0, .int .u8 0] (by simp)).f 0 rfl
      have cr_1 : W9.cell? ⟨r, 1, none⟩ = some (.string ⟨#[]⟩) := (K9.out.at r [.int .i64 0, .string ⟨#[]⟩, .int .i64 0, .string ⟨#[]⟩, .int .i64 0, .int .i64 0, .int .i64 0, .int .i64 0, .int .i64 0, .int .i64 0, .int .u8 0] (by simp)).c 1 rfl
      have zr_1 : W9.frozen? ⟨r, 1, none⟩ = false := (K9.out.at r [.int .i64 0, .string ⟨#[]⟩, .int .i64 0, .string ⟨#[]⟩, .int .i64 0, .int .i64 0, .int .i64 0, .int .i64 0, .int .i64 0, .int .i64 0, .int .u8 0] (by simp)).f 1 rfl
      have cr_2 : W9.cell? ⟨r, 2, none⟩ = some (.int .i64 0) := (K9.out.at r [.int .i64 0, .string ⟨#[]⟩, .int .i64 0, .string ⟨#[]⟩, .int .i64 0, .int .i64 0, .int .i64 0, .int .i64 0, .int .i64 0, .int .i64 0, .int .u8 0] (by simp)).c 2 rfl
      have zr_2 : W9.frozen? ⟨r, 2, none⟩ = false := (K9.out.at r [.int .i64 0, .string ⟨#[]⟩, .int .i64 0, .string ⟨#[]⟩, .int .i64 0, .int .i64 0, .int .i64 0, .int .i64 0, .int .i64 0, .int .i64 0, .int .u8 0] (by simp)).f 2 rfl
      have cr_3 : W9.cell? ⟨r, 3, none⟩ = some (.string ⟨#[]⟩) := (K9.out.at r [.int .i64 0, .string ⟨#[]⟩, .int .i64 0, .string ⟨#[]⟩, .int .i64 0, .int .i64 0, .int .i64 0, .int .i64 0, .int .i64 0, .int .i64 0, .int .u8 0] (by simp)).c 3 rfl
      have zr_3 : W9.frozen? ⟨r, 3, none⟩ = false := (K9.out.at r [.int .i64 0, .string ⟨#[]⟩, .int .i64 0, .string ⟨#[]⟩, .int .i64 0, .int .i64 0, .int .i64 0, .int .i64 0, .int .i64 0, .int .i64 0, .int .u8 0] (by simp)).f 3 rfl
      have cr_4 : W9.cell? ⟨r, 4, none⟩ = some (.int .i64 0) := (K9.out.at r [.int .i64 0, .string ⟨#[]⟩, .int .i64 0, .string ⟨#[]⟩, .int .i64 0, .int .i64 0, .int .i64 0, .int .i64 0, .int .i64 0, .int .i64 0, .int .u8 0] (by simp)).c 4 rfl
      have zr_4 : W9.frozen? ⟨r, 4, none⟩ = false := (K9.out.at r [.int .i64 0, .string ⟨#[]⟩, .int .i64 0, .string ⟨#[]⟩, .int .i64 0, .int .i64 0, .int .i64 0, .int .i64 0, .int .i64 0, .int .i64 0, .int .u8 0] (by simp)).f 4 rfl
      have cr_5 : W9.cell? ⟨r, 5, none⟩ = some (.int .i64 0) := (K9.out.at r [.int .i64 0, .string ⟨#[]⟩, .int .i64 0, .string ⟨#[]⟩, .int .i64 0, .int .i64 0, .int .i64 0, .int .i64 0, .int .i64 0, .int .i64 0, .int .u8 0] (by simp)).c 5 rfl
      have zr_5 : W9.frozen? ⟨r, 5, none⟩ = false := (K9.out.at r [.int .i64 0, .string ⟨#[]⟩, .int .i64 0, .string ⟨#[]⟩, .int .i64 0, .int .i64 0, .int .i64 0, .int .i64 0, .int .i64 0, .int .i64 0, .int .u8 0] (by simp)).f 5 rfl
      have cr_6 : W9.cell? ⟨r, 6, none⟩ = some (.int .i64 0) := (K9.out.at r [.int .i64 0, .string ⟨#[]⟩, .int .i64 0, .string ⟨#[]⟩, .int .i64 0, .int .i64 0, .int .i64 0, .int .i64 0, .int .i64 0, .int .i64 0, .int .u8 0] (by simp)).c 6 rfl
      have zr_6 : W9.frozen? ⟨r, 6, none⟩ = false := (K9.out.at r [.int .i64 0, .string ⟨#[]⟩, .int .i64 0, .string ⟨#[]⟩, .int .i64 0, .int .i64 0, .int .i64 0, .int .i64 0, .int .i64 0, .int .i64 0, .int .u8 0] (by simp)).f 6 rfl
      have cr_7 : W9.cell? ⟨r, 7, none⟩ = some (.int .i64 0) := (K9.out.at r [.int .i64 0, .string ⟨#[]⟩, .int .i64 0, .string ⟨#[]⟩, .int .i64 0, .int .i64 0, .int .i64 0, .int .i64 0, .int .i64 0, .int .i64 0, .int .u8 0] (by simp)).c 7 rfl
      have zr_7 : W9.frozen? ⟨r, 7, none⟩ = false := (K9.out.at r [.int .i64 0, .string ⟨#[]⟩, .int .i64 0, .string ⟨#[]⟩, .int .i64 0, .int .i64 0, .int .i64 0, .int .i64 0, .int .i64 0, .int .i64 0, .int .u8 0] (by simp)).f 7 rfl
      have cr_8 : W9.cell? ⟨r, 8, none⟩ = some (.int .i64 0) := (K9.out.at r [.int .i64 0, .string ⟨#[]⟩, .int .i64 0, .string ⟨#[]⟩, .int .i64 0, .int .i64 0, .int .i64 0, .int .i64 0, .int .i64 0, .int .i64 0, .int .u8 0] (by simp)).c 8 rfl
      have zr_8 : W9.frozen? ⟨r, 8, none⟩ = false := (K9.out.at r [.int .i64 0, .string ⟨#[]⟩, .int .i64 0, .string ⟨#[]⟩, .int .i64 0, .int .i64 0, .int .i64 0, .int .i64 0, .int .i64 0, .int .i64 0, .int .u8 0] (by simp)).f 8 rfl
      have cr_9 : W9.cell? ⟨r, 9, none⟩ = some (.int .i64 0) := (K9.out.at r [.int .i64 0, .string ⟨#[]⟩, .int .i64 0, .string ⟨#[]⟩, .int .i64 0, .int .i64 0, .int .i64 0, .int .i64 0, .int .i64 0, .int .i64 0, .int .u8 0] (by simp)).c 9 rfl
      have zr_9 : W9.frozen? ⟨r, 9, none⟩ = false := (K9.out.at r [.int .i64 0, .string ⟨#[]⟩, .int .i64 0, .string ⟨#[]⟩, .int .i64 0, .int .i64 0, .int .i64 0, .int .i64 0, .int .i64 0, .int .i64 0, .int .u8 0] (by simp)).f 9 rfl
      have cr_10 : W9.cell? ⟨r, 10, none⟩ = some (.int .u8 0) := (K9.out.at r [.int .i64 0, .string ⟨#[]⟩, .int .i64 0, .string ⟨#[]⟩, .int .i64 0, .int .i64 0, .int .i64 0, .int .i64 0, .int .i64 0, .int .i64 0, .int .u8 0] (by simp)).c 10 rfl
      have zr_10 : W9.frozen? ⟨r, 10, none⟩ = false := (K9.out.at r [.int .i64 0, .string ⟨#[]⟩, .int .i64 0, .string ⟨#[]⟩, .int .i64 0, .int .i64 0, .int .i64 0, .int .i64 0, .int .i64 0, .int .i64 0, .int .u8 0] (by simp)).f 10 rfl
      have XF : Hid (Bx (W9.setCells r 0 [.int .i64 A0, .string RL, .int .i64 SV, .string x2, .int .i64 uy, .int .i64 um, .int .i64 ua, .int .i64 ub, .int .i64 uc, .int .i64 ut, .int .u8 uz]) r [.int .i64 A0, .string RL, .int .i64 SV, .string x2, .int .i64 uy, .int .i64 um, .int .i64 ua, .int .i64 ub, .int .i64 uc, .int .i64 ut, .int .u8 uz]) := (K9.out.at r [.int .i64 0, .string ⟨#[]⟩, .int .i64 0, .string ⟨#[]⟩, .int .i64 0, .int .i64 0, .int .i64 0, .int .i64 0, .int .i64 0, .int .i64 0, .int .u8 0] (by simp)).setAll _ rfl
      have BF : Hid (Below w.heap.size w (W9.setCells r 0 [.int .i64 A0, .string RL, .int .i64 SV, .string x2, .int .i64 uy, .int .i64 um, .int .i64 ua, .int .i64 ub, .int .i64 uc, .int .i64 ut, .int .u8 uz])) := below_setCells hwr _ _ _ K9.out.1
      have e0 := XF.out.c 0 rfl
      have e1 := XF.out.c 1 rfl
      have e2 := XF.out.c 2 rfl
      have e3 := XF.out.c 3 rfl
      have e4 := XF.out.c 4 rfl
      have e5 := XF.out.c 5 rfl
      have e6 := XF.out.c 6 rfl
      have e7 := XF.out.c 7 rfl
      have e8 := XF.out.c 8 rfl
      have e9 := XF.out.c 9 rfl
      have e10 := XF.out.c 10 rfl
      simp only [World.setCells, Nat.zero_add, Nat.reduceAdd] at e0 e1 e2 e3 e4 e5 e6 e7 e8 e9 e10
      clear XF
      cases ok1
      · go_wp2_with fail
        exact bodyPost_ret (v := .tuple #[.agg #[.int .i64 A0, .string RL, .int .i64 SV, .string x2, .int .i64 uy, .int .i64 um, .int .i64 ua, .int .i64 ub, .int .i64 uc, .int .i64 ut, .int .u8 uz], .bool (false)]) (by simp [results, Tryz.results84, go_sem, e0, e1, e2, e3, e4, e5, e6, e7, e8, e9, e10]) rfl ⟨by simp, BF.out⟩
      · go_wp2_with fail
        exact bodyPost_ret (v := .tuple #[.agg #[.int .i64 A0, .string RL, .int .i64 SV, .string x2, .int .i64 uy, .int .i64 um, .int .i64 ua, .int .i64 ub, .int .i64 uc, .int .i64 ut, .int .u8 uz], .bool (bu)]) (by simp [results, Tryz.results84, go_sem, e0, e1, e2, e3, e4, e5, e6, e7, e8, e9, e10]) rfl ⟨by simp, BF.out⟩

end Go.Proofs.YtgnfkkcagbbhmaaGreatDoor
