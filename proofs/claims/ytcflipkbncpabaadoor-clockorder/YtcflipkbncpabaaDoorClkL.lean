/- Texts of times: their first eight bytes, their order, and that two times have two texts. -/
import Derived.Test.YtcflipkbncpabaaDoorClkK
namespace Go.Proofs.YtcflipkbncpabaaDoor
open Go.RowKit
set_option linter.unusedVariables false

/-- two digits. -/
def d2 (n : Nat) : List UInt8 := [UInt8.ofNat (48 + n / 10), UInt8.ofNat (48 + n % 10)]
theorem two_fin : ∀ n : Fin 100, (twoB (n.val : Int)).data.toList = d2 n.val := by decide +kernel
theorem two_small (n : Nat) (h : n < 100) : (twoB (n : Int)).data.toList = d2 n := two_fin ⟨n, h⟩
theorem append_list (a b : ByteArray) : (a ++ b).data.toList = a.data.toList ++ b.data.toList := by simp [ByteArray.data_append]

/-- a text of a time, as its bytes. -/
theorem text_list (t : Nat) (h : t ≤ 86400000000) : (textB (t : Int)).data.toList = d2 (t / 3600000000) ++ 58 :: (d2 (t / 60000000 % 60) ++ 58 :: (d2 (t / 1000000 % 60) ++ (fracB ((t % 1000000 : Nat) : Int)).data.toList)) := by
  have e1 : (t : Int) / 3600000000 = ((t / 3600000000 : Nat) : Int) := by omega
  have e2 : (t : Int) / 60000000 % 60 = ((t / 60000000 % 60 : Nat) : Int) := by omega
  have e3 : (t : Int) / 1000000 % 60 = ((t / 1000000 % 60 : Nat) : Int) := by omega
  have e4 : (t : Int) % 1000000 = ((t % 1000000 : Nat) : Int) := by omega
  unfold textB faceB
  rw [e1, e2, e3, e4]
  simp only [append_list]
  rw [two_small _ (by omega), two_small _ (by omega), two_small _ (by omega)]
  simp [d2]

theorem ofNat_lt {a b : Nat} (ha : a < 10) (hb : b < 10) : UInt8.ofNat (48 + a) < UInt8.ofNat (48 + b) ↔ a < b := by
  have : ∀ x y : Fin 10, (UInt8.ofNat (48 + x.val) < UInt8.ofNat (48 + y.val)) ↔ x.val < y.val := by decide
  exact this ⟨a, ha⟩ ⟨b, hb⟩
theorem ofNat_inj {a b : Nat} (ha : a < 10) (hb : b < 10) (h : UInt8.ofNat (48 + a) = UInt8.ofNat (48 + b)) : a = b := by
  have : ∀ x y : Fin 10, (UInt8.ofNat (48 + x.val) = UInt8.ofNat (48 + y.val)) → x.val = y.val := by decide
  exact this ⟨a, ha⟩ ⟨b, hb⟩ h

theorem less_lt {n m : Nat} (hn : n < 100) (hm : m < 100) (h : n < m) (r s : List UInt8) : Op.bytesLess (d2 n ++ r) (d2 m ++ s) = true := by
  show (decide (UInt8.ofNat (48 + n / 10) < UInt8.ofNat (48 + m / 10)) || (UInt8.ofNat (48 + n / 10) == UInt8.ofNat (48 + m / 10) && (decide (UInt8.ofNat (48 + n % 10) < UInt8.ofNat (48 + m % 10)) || (UInt8.ofNat (48 + n % 10) == UInt8.ofNat (48 + m % 10) && Op.bytesLess r s)))) = true
  by_cases q : n / 10 < m / 10
  · rw [decide_eq_true ((ofNat_lt (by omega) (by omega)).2 q)]; rfl
  · have e : n / 10 = m / 10 := by omega
    rw [e, decide_eq_true ((ofNat_lt (a := n % 10) (b := m % 10) (by omega) (by omega)).2 (by omega))]
    simp
theorem less_eq (n : Nat) (r s : List UInt8) : Op.bytesLess (d2 n ++ r) (d2 n ++ s) = Op.bytesLess r s := by
  show (decide (UInt8.ofNat (48 + n / 10) < UInt8.ofNat (48 + n / 10)) || (UInt8.ofNat (48 + n / 10) == UInt8.ofNat (48 + n / 10) && (decide (UInt8.ofNat (48 + n % 10) < UInt8.ofNat (48 + n % 10)) || (UInt8.ofNat (48 + n % 10) == UInt8.ofNat (48 + n % 10) && Op.bytesLess r s)))) = _
  simp
theorem less_58 (r s : List UInt8) : Op.bytesLess (58 :: r) (58 :: s) = Op.bytesLess r s := by
  show (decide ((58 : UInt8) < 58) || ((58 : UInt8) == 58 && Op.bytesLess r s)) = _
  simp

/-- the first eight. -/
theorem take8 (h m s : Nat) (r : List UInt8) : (d2 h ++ 58 :: (d2 m ++ 58 :: (d2 s ++ r))).take 8 = d2 h ++ 58 :: (d2 m ++ 58 :: d2 s) := by simp [d2]

theorem eight_le (a b : Nat) (ha : a ≤ 86400000000) (hb : b ≤ 86400000000) (h : a < b) :
    (Op.bytesLess (((textB (a : Int)).data.toList).take 8) (((textB (b : Int)).data.toList).take 8) || (((textB (a : Int)).data.toList).take 8 == ((textB (b : Int)).data.toList).take 8)) = true := by
  rw [text_list a ha, text_list b hb, take8, take8]
  by_cases h1 : a / 3600000000 < b / 3600000000
  · rw [less_lt (by omega) (by omega) h1]; rfl
  · have e1 : a / 3600000000 = b / 3600000000 := by omega
    rw [e1, less_eq, less_58]
    by_cases h2 : a / 60000000 % 60 < b / 60000000 % 60
    · rw [less_lt (by omega) (by omega) h2]; rfl
    · have e2 : a / 60000000 % 60 = b / 60000000 % 60 := by omega
      rw [e2, less_eq, less_58]
      by_cases h3 : a / 1000000 % 60 < b / 1000000 % 60
      · have := less_lt (by omega) (by omega) h3 [] []
        simp only [List.append_nil] at this
        rw [this]; rfl
      · have e3 : a / 1000000 % 60 = b / 1000000 % 60 := by omega
        rw [e3]
        simp

theorem d2_inj {n m : Nat} (hn : n < 100) (hm : m < 100) (h : d2 n = d2 m) : n = m := by
  unfold d2 at h
  simp only [List.cons.injEq, and_true] at h
  have a := ofNat_inj (a := n / 10) (b := m / 10) (by omega) (by omega) h.1
  have b := ofNat_inj (a := n % 10) (b := m % 10) (by omega) (by omega) h.2
  omega

/-- six digits behind the point. -/
def six (u : Nat) : List UInt8 := [Lib.dg u 5, Lib.dg u 4, Lib.dg u 3, Lib.dg u 2, Lib.dg u 1, Lib.dg u 0]
theorem fracS_list {us : Nat} (h1 : 1 ≤ us) (h2 : us ≤ 999999) : (fracS (us : Int)).data.toList = six (1000000 + us) := by
  have n7 : Lib.nDigits (1000000 + us) = 7 := Lib.nDigits_unique 6 _ (by simp) (by simp; omega)
  have e : Lib.itoa (1000000 + (us : Int)) = Lib.dg (1000000 + us) 6 :: six (1000000 + us) := by
    unfold Lib.itoa
    rw [if_neg (by omega), show (1000000 + (us : Int)).toNat = 1000000 + us by omega, Lib.decDigits_eq, n7]
    rfl
  unfold fracS
  rw [e]
  rfl
theorem six_inj {u v : Nat} (hu : u < 2000000) (hv : v < 2000000) (h : six u = six v) : u % 1000000 = v % 1000000 := by
  unfold six Lib.dg at h
  simp only [List.cons.injEq, and_true] at h
  obtain ⟨a, b, c, d, e, f⟩ := h
  have a := ofNat_inj (Nat.mod_lt _ (by decide)) (Nat.mod_lt _ (by decide)) a
  have b := ofNat_inj (Nat.mod_lt _ (by decide)) (Nat.mod_lt _ (by decide)) b
  have c := ofNat_inj (Nat.mod_lt _ (by decide)) (Nat.mod_lt _ (by decide)) c
  have d := ofNat_inj (Nat.mod_lt _ (by decide)) (Nat.mod_lt _ (by decide)) d
  have e := ofNat_inj (Nat.mod_lt _ (by decide)) (Nat.mod_lt _ (by decide)) e
  have f := ofNat_inj (Nat.mod_lt _ (by decide)) (Nat.mod_lt _ (by decide)) f
  simp at a b c d e f
  omega

theorem trim_back (c : UInt8) (l : List UInt8) : l = Lib.trimRightB l c ++ List.replicate (l.length - (Lib.trimRightB l c).length) c := by
  have g : ∀ k : List UInt8, k = List.replicate (k.length - (k.dropWhile (· == c)).length) c ++ k.dropWhile (· == c) := by
    intro k
    induction k with
    | nil => rfl
    | cons x k ih =>
      by_cases hx : x = c
      · subst hx
        rw [List.dropWhile_cons_of_pos (by simp)]
        have hl : (k.dropWhile (· == x)).length ≤ k.length := (List.dropWhile_sublist _).length_le
        rw [show (x :: k).length - (k.dropWhile (· == x)).length = (k.length - (k.dropWhile (· == x)).length) + 1 by simp; omega, List.replicate_succ, List.cons_append, ← ih]
      · rw [List.dropWhile_cons_of_neg (by simpa using hx)]
        simp
  have q := congrArg List.reverse (g l.reverse)
  rw [List.reverse_reverse, List.reverse_append, List.reverse_replicate] at q
  unfold Lib.trimRightB
  rw [List.length_reverse]
  rw [List.length_reverse] at q
  exact q
theorem trim_inj {c : UInt8} {l k : List UInt8} (hl : l.length = k.length) (h : Lib.trimRightB l c = Lib.trimRightB k c) : l = k := by
  rw [trim_back c l, trim_back c k, h, hl]

theorem frac_inj {u v : Nat} (hu : u ≤ 999999) (hv : v ≤ 999999) (h : (fracB (u : Int)).data.toList = (fracB (v : Int)).data.toList) : u = v := by
  unfold fracB at h
  by_cases a : 1 ≤ u
  · by_cases b : 1 ≤ v
    · rw [if_pos ⟨by omega, by omega⟩, if_pos ⟨by omega, by omega⟩, append_list, append_list] at h
      have h2 := List.append_cancel_left h
      have h3 : Lib.trimRightB (fracS (u : Int)).data.toList 48 = Lib.trimRightB (fracS (v : Int)).data.toList 48 := h2
      rw [fracS_list a hu, fracS_list b hv] at h3
      have h4 := six_inj (u := 1000000 + u) (v := 1000000 + v) (by omega) (by omega) (trim_inj rfl h3)
      omega
    · rw [if_pos ⟨by omega, by omega⟩, if_neg (fun k => by omega), append_list] at h
      simp at h
  · by_cases b : 1 ≤ v
    · rw [if_neg (fun k => by omega), if_pos ⟨by omega, by omega⟩, append_list] at h
      simp at h
    · omega

theorem text_inj (a b : Nat) (ha : a ≤ 86400000000) (hb : b ≤ 86400000000) (h : (textB (a : Int)).data.toList = (textB (b : Int)).data.toList) : a = b := by
  rw [text_list a ha, text_list b hb] at h
  have q1 : d2 (a / 3600000000) = d2 (b / 3600000000) ∧ d2 (a / 60000000 % 60) = d2 (b / 60000000 % 60) ∧ d2 (a / 1000000 % 60) = d2 (b / 1000000 % 60) ∧ (fracB ((a % 1000000 : Nat) : Int)).data.toList = (fracB ((b % 1000000 : Nat) : Int)).data.toList := by
    simp only [d2, List.cons_append, List.nil_append, List.cons.injEq] at h ⊢
    obtain ⟨x1, x2, _, x3, x4, _, x5, x6, x7⟩ := h
    exact ⟨⟨x1, x2, trivial⟩, ⟨x3, x4, trivial⟩, ⟨x5, x6, trivial⟩, x7⟩
  have p1 := d2_inj (by omega) (by omega) q1.1
  have p2 := d2_inj (by omega) (by omega) q1.2.1
  have p3 := d2_inj (by omega) (by omega) q1.2.2.1
  have p4 := frac_inj (by omega) (by omega) q1.2.2.2
  omega

end Go.Proofs.YtcflipkbncpabaaDoor
