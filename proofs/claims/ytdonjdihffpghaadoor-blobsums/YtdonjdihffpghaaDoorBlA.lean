/- Contracts: blob.Sum, the reference's Sum, blob.highest, blob.sumOf. -/
import Derived.Test.YtdonjdihffpghaaDoorDigA
import Derived.Test.YtdonjdihffpghaaDoorBlM
namespace Go.Proofs.YtdonjdihffpghaaDoor
open Go.RowKit
set_option linter.unusedVariables false

/-- the bytes L lie where the slice (a, n) says. -/
def RdB (W : World) (a : Option Addr) (L : List UInt8) : Prop := ∀ j x, L[j]? = some x → ∃ ad, a = some ad ∧ W.cell? (ad.add j) = some (.int .u8 (x.toNat : Int))
theorem adS_drop {L : List UInt8} {j : Nat} {x : UInt8} (h : L[j]? = some x) (a c : Nat) : adS (L.drop j) a c = adS (L.drop (j + 1)) ((a + x.toNat) % 65521) ((c + (a + x.toNat) % 65521) % 65521) := by
  obtain ⟨hl, he⟩ := List.getElem?_eq_some_iff.1 h
  rw [List.drop_eq_getElem_cons hl, he, adS]

set_option maxRecDepth 100000 in
set_option maxHeartbeats 4000000 in
theorem sum_any (a : Option Addr) (L : List UInt8) (n c : Nat) (hn : L.length = n) (hc : n ≤ maxLen) (w : World) (HR : Hid (RdB w a L)) :
    Calls Tryd.prog 6 #[.slice a n c] w fun e w' => e = .returned (.int .u32 (smB L : Int)) ∧ w' = w := by
  have hm : n ≤ 9223372036854775807 := hc
  go_enter Tryd.func6, Tryd.ntmps6
  go_wp2_with fail
  go_loopw [3, 4, 9] (fun u v i W => ∃ (A C j : Nat), A < 65521 ∧ C < 65521 ∧ j ≤ n ∧ u = .int .u32 (A : Int) ∧ v = .int .u32 (C : Int) ∧ i = .int .i64 (j : Int) ∧ Hid (adS (L.drop j) A C = adS L 1 0) ∧ W = w) (fun _ _ i _ => n - (intOf i).toNat)
  case atStart => exact ⟨1, 0, 0, by decide, by decide, Nat.zero_le _, rfl, rfl, rfl, by show _ = _; simp, rfl⟩
  case round =>
    obtain ⟨A, C, j, hA, hC, hj, rfl, rfl, rfl, HS, hw⟩ := hrel
    obtain rfl := hw.symm
    clear hw
    by_cases hjn : j < n
    · obtain ⟨x, hx⟩ : ∃ x, L[j]? = some x := ⟨_, List.getElem?_eq_getElem (by omega)⟩
      obtain ⟨ad, rfl, hcell⟩ := HR.out j x hx
      have HS' : Hid (adS (L.drop (j + 1)) ((A + x.toNat) % 65521) ((C + (A + x.toNat) % 65521) % 65521) = adS L 1 0) := by have := HS.out; rw [adS_drop hx] at this; exact this
      have hx8 : x.toNat < 256 := x.toNat_lt
      obtain ⟨X, hX⟩ : ∃ X, x.toNat = X := ⟨_, rfl⟩
      rw [hX] at hcell HS' hx8
      clear hX hx HS
      have e1 : IntKind.u32.wrap ((A : Int) + (X : Int)) = ((A + X : Nat) : Int) := by rw [IntKind.wrap_u32]; omega
      go_wp2_with fail
      exact ⟨⟨(A + X) % 65521, (C + (A + X) % 65521) % 65521, j + 1, Nat.mod_lt _ (by decide), Nat.mod_lt _ (by decide), by omega, by congr 1, by congr 1, by congr 1, HS', trivial⟩, by simp [intOf]; omega⟩
    · have HF : Hid (smB L = C * 65536 + A) := by
        have h := HS.out
        rw [List.drop_eq_nil_of_le (by omega)] at h
        show _ = _
        unfold smB; rw [← h]; rfl
      have e1 : (C : Int) * 65536 < 4294967296 := by omega
      go_wp2_with fail
      exact bodyPost_ret (v := .int .u32 ((C : Int) * 65536 + A)) (by simp [results, Tryd.results6, go_sem]) rfl ⟨by rw [HF.out]; simp, rfl⟩

set_option maxRecDepth 100000 in
set_option maxHeartbeats 4000000 in
theorem rsum_any (a : Option Addr) (L : List UInt8) (n c : Nat) (hn : L.length = n) (hc : n ≤ maxLen) (w : World) (HR : Hid (RdB w a L)) :
    Calls Tryd.prog 7 #[.slice a n c] w fun e w' => e = .returned (.int .u32 (smB L : Int)) ∧ w' = w := by
  have hm : n ≤ 9223372036854775807 := hc
  go_enter Tryd.func7, Tryd.ntmps7
  go_wp2_with fail
  go_loopw [3, 4, 5] (fun u v i W => ∃ (A C j : Nat), A < 65521 ∧ C < 65521 ∧ j ≤ n ∧ u = .int .u32 (A : Int) ∧ v = .int .u32 (C : Int) ∧ i = .int .i64 (j : Int) ∧ Hid (adS (L.drop j) A C = adS L 1 0) ∧ W = w) (fun _ _ i _ => n - (intOf i).toNat)
  case atStart => exact ⟨1, 0, 0, by decide, by decide, Nat.zero_le _, rfl, rfl, rfl, by show _ = _; simp, rfl⟩
  case round =>
    obtain ⟨A, C, j, hA, hC, hj, rfl, rfl, rfl, HS, hw⟩ := hrel
    obtain rfl := hw.symm
    clear hw
    by_cases hjn : j < n
    · obtain ⟨x, hx⟩ : ∃ x, L[j]? = some x := ⟨_, List.getElem?_eq_getElem (by omega)⟩
      obtain ⟨ad, rfl, hcell⟩ := HR.out j x hx
      have HS' : Hid (adS (L.drop (j + 1)) ((A + x.toNat) % 65521) ((C + (A + x.toNat) % 65521) % 65521) = adS L 1 0) := by have := HS.out; rw [adS_drop hx] at this; exact this
      have hx8 : x.toNat < 256 := x.toNat_lt
      obtain ⟨X, hX⟩ : ∃ X, x.toNat = X := ⟨_, rfl⟩
      rw [hX] at hcell HS' hx8
      clear hX hx HS
      have e1 : IntKind.u32.wrap ((A : Int) + (X : Int)) = ((A + X : Nat) : Int) := by rw [IntKind.wrap_u32]; omega
      go_wp2_with fail
      exact ⟨⟨(A + X) % 65521, (C + (A + X) % 65521) % 65521, j + 1, Nat.mod_lt _ (by decide), Nat.mod_lt _ (by decide), by omega, by congr 1, by congr 1, by congr 1, HS', trivial⟩, by simp [intOf]; omega⟩
    · have HF : Hid (smB L = C * 65536 + A) := by
        have h := HS.out
        rw [List.drop_eq_nil_of_le (by omega)] at h
        show _ = _
        unfold smB; rw [← h]; rfl
      have e1 : (C : Int) * 65536 < 4294967296 := by omega
      go_wp2_with fail
      exact bodyPost_ret (v := .int .u32 ((C : Int) * 65536 + A)) (by simp [results, Tryd.results7, go_sem]) rfl ⟨by rw [HF.out]; simp, rfl⟩

end Go.Proofs.YtdonjdihffpghaaDoor
