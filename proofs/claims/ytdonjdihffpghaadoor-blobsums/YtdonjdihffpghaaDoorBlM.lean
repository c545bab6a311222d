/- Mathematics of package blob: two sums of bytes, a number's bytes, one byte that is another one. -/
import Derived.Laws.BytesArg
namespace Go.Proofs.YtdonjdihffpghaaDoor
set_option linter.unusedVariables false

/-- both sums, from a and c on. -/
def adS : List UInt8 → Nat → Nat → Nat × Nat
  | [], a, c => (a, c)
  | x :: l, a, c => adS l ((a + x.toNat) % 65521) ((c + (a + x.toNat) % 65521) % 65521)
def sumN (l : List UInt8) : Nat := (l.map (·.toNat)).sum
theorem adS_lt (l : List UInt8) : ∀ a c, a < 65521 → c < 65521 → (adS l a c).1 < 65521 ∧ (adS l a c).2 < 65521 := by
  induction l with
  | nil => intro a c ha hc; exact ⟨ha, hc⟩
  | cons x l ih => intro a c ha hc; exact ih _ _ (Nat.mod_lt _ (by decide)) (Nat.mod_lt _ (by decide))
theorem adS_fst (l : List UInt8) : ∀ a c, a < 65521 → (adS l a c).1 = (a + sumN l) % 65521 := by
  induction l with
  | nil => intro a c ha; simp [adS, sumN]; omega
  | cons x l ih =>
    intro a c ha
    rw [adS, ih _ _ (Nat.mod_lt _ (by decide))]
    simp only [sumN, List.map_cons, List.sum_cons]
    omega
/-- the sum of bytes. -/
def smB (l : List UInt8) : Nat := (adS l 1 0).2 * 65536 + (adS l 1 0).1
theorem smB_lt (l : List UInt8) : smB l < 4294967296 := by
  have := adS_lt l 1 0 (by decide) (by decide); unfold smB; omega
theorem smB_mod (l : List UInt8) : smB l % 65536 = (1 + sumN l) % 65521 := by
  have := adS_lt l 1 0 (by decide) (by decide); have h2 := adS_fst l 1 0 (by decide); unfold smB; omega

/-- the last k bytes of n, the highest first. -/
def beB : Nat → Nat → List UInt8
  | 0, _ => []
  | k + 1, n => UInt8.ofNat (n / 256 ^ k) :: beB k n
theorem beB_len (k n : Nat) : (beB k n).length = k := by
  induction k with
  | zero => rfl
  | succ k ih => simp [beB, ih]
theorem beB4 (n : Nat) : beB 4 n = [UInt8.ofNat (n / 16777216), UInt8.ofNat (n / 65536), UInt8.ofNat (n / 256), UInt8.ofNat n] := by simp [beB]
theorem u8_of (n : Nat) : (UInt8.ofNat n).toNat = n % 256 := by simp
theorem beB4_inj {n m : Nat} (hn : n < 4294967296) (hm : m < 4294967296) (h : beB 4 n = beB 4 m) : n = m := by
  rw [beB4, beB4] at h
  simp only [List.cons.injEq, and_true] at h
  obtain ⟨h1, h2, h3, h4⟩ := h
  have h1 := congrArg UInt8.toNat h1
  have h2 := congrArg UInt8.toNat h2
  have h3 := congrArg UInt8.toNat h3
  have h4 := congrArg UInt8.toNat h4
  rw [u8_of, u8_of] at h1 h2 h3 h4
  omega

theorem sumN_append (a b : List UInt8) : sumN (a ++ b) = sumN a + sumN b := by simp [sumN]
theorem sumN_cons (x : UInt8) (b : List UInt8) : sumN (x :: b) = x.toNat + sumN b := by simp [sumN]
/-- one byte is another one: another sum. -/
theorem smB_ne (a b : List UInt8) (x y : UInt8) (h : x ≠ y) : smB (a ++ x :: b) ≠ smB (a ++ y :: b) := by
  intro e
  have e := congrArg (· % 65536) e
  simp only [smB_mod, sumN_append, sumN_cons] at e
  have hx : x.toNat < 256 := x.toNat_lt
  have hy : y.toNat < 256 := y.toNat_lt
  have hn : x.toNat ≠ y.toNat := fun k => h (UInt8.toNat_inj.1 k)
  omega

end Go.Proofs.YtdonjdihffpghaaDoor
