/- Plain mathematics of sums in two halves. -/
import Derived.Laws.Externs
namespace Go.Proofs.Ytlhlanekklonmaa
set_option linter.unusedVariables false

def tot : List Int → Int
  | [] => 0
  | x :: l => x + tot l
theorem tot_append : ∀ (l k : List Int), tot (l ++ k) = tot l + tot k
  | [], k => by simp [tot]
  | x :: l, k => by simp only [List.cons_append, tot]; rw [tot_append l k]; omega
theorem tot_reverse : ∀ l : List Int, tot l.reverse = tot l
  | [] => rfl
  | x :: l => by rw [List.reverse_cons, tot_append, tot_reverse l]; simp [tot]; omega
theorem tot_take {l : List Int} {i : Nat} {x : Int} (h : l[i]? = some x) : tot (l.take (i + 1)) = tot (l.take i) + x := by
  rw [List.take_add_one, h, tot_append]; simp [tot]

/-- both halves hold the sum, but for whole rounds. -/
def Half (S hi lo : Int) : Prop := 0 ≤ hi ∧ hi < 18446744073709551616 ∧ 0 ≤ lo ∧ lo < 18446744073709551616 ∧ ∃ k : Int, hi * 18446744073709551616 + lo = S + k * 340282366920938463463374607431768211456
theorem half_zero : Half 0 0 0 := ⟨by omega, by omega, by omega, by omega, 0, by omega⟩
theorem half_step {S hi lo x u sh c lo' s1 hi' : Int} (h : Half S hi lo) (x1 : -9223372036854775808 ≤ x) (x2 : x ≤ 9223372036854775807)
    (hu : u = x % 18446744073709551616) (hsh : sh = if x < 0 then 18446744073709551615 else 0) (hc : c = (lo + u) / 18446744073709551616) (hl : lo' = (lo + u) % 18446744073709551616) (h1 : s1 = (sh + c) % 18446744073709551616) (h2 : hi' = (hi + s1) % 18446744073709551616) :
    Half (S + x) hi' lo' := by
  obtain ⟨a1, a2, a3, a4, k, hk⟩ := h
  refine ⟨by omega, by omega, by omega, by omega, ?_⟩
  by_cases z : x < 0
  · rw [if_pos z] at hsh
    have e1 : u = x + 18446744073709551616 := by omega
    obtain ⟨j, hj⟩ : ∃ j, hi' = hi + sh + c - j * 18446744073709551616 := ⟨(sh + c) / 18446744073709551616 + (hi + s1) / 18446744073709551616, by omega⟩
    exact ⟨k + 1 - j, by omega⟩
  · rw [if_neg z] at hsh
    have e1 : u = x := by omega
    obtain ⟨j, hj⟩ : ∃ j, hi' = hi + sh + c - j * 18446744073709551616 := ⟨(sh + c) / 18446744073709551616 + (hi + s1) / 18446744073709551616, by omega⟩
    exact ⟨k - j, by omega⟩
/-- the low half as a number with a sign; the high one is its sign's just if the sum is that number. -/
theorem half_end {S hi lo r sh : Int} (h : Half S hi lo) (s1 : -85070591730234615865843651857942052864 ≤ S) (s2 : S ≤ 85070591730234615865843651857942052864) (hr : r = if lo < 9223372036854775808 then lo else lo - 18446744073709551616) (hsh : sh = if r < 0 then 18446744073709551615 else 0) :
    (hi = sh ↔ (-9223372036854775808 ≤ S ∧ S ≤ 9223372036854775807)) ∧ (hi = sh → r = S) := by
  obtain ⟨a1, a2, a3, a4, k, hk⟩ := h
  by_cases z : lo < 9223372036854775808
  · rw [if_pos z] at hr
    rw [if_neg (by omega)] at hsh
    subst hr hsh
    constructor
    · constructor <;> intro q <;> omega
    · intro q; omega
  · rw [if_neg z] at hr
    rw [if_pos (by omega)] at hsh
    subst hr hsh
    constructor
    · constructor <;> intro q <;> omega
    · intro q; omega
theorem tot_bound : ∀ (l : List Int) (i : Nat), (∀ (j : Nat) (x : Int), l[j]? = some x → -9223372036854775808 ≤ x ∧ x ≤ 9223372036854775807) → i ≤ l.length → -(9223372036854775808 * (i : Int)) ≤ tot (l.take i) ∧ tot (l.take i) ≤ 9223372036854775808 * (i : Int)
  | l, 0, h, _ => by simp [tot]
  | l, i + 1, h, hi => by
    obtain ⟨x, hx⟩ : ∃ x, l[i]? = some x := ⟨l[i]'(by omega), List.getElem?_eq_getElem (by omega)⟩
    have a := tot_bound l i h (by omega)
    have b := h i x hx
    rw [tot_take hx]
    omega

end Go.Proofs.Ytlhlanekklonmaa
