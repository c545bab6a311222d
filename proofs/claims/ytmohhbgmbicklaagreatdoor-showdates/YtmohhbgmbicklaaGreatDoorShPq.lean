/- show: small functions. -/
import Derived.Test.YtmohhbgmbicklaaGreatDoorShJq
import Derived.Test.YtmohhbgmbicklaaGreatDoorClkEq
import Derived.Lib.ItoaLen
import Derived.Deep.CutRange
import Derived.Deep.DeepCutAuto
namespace Go.Proofs.YtmohhbgmbicklaaGreatDoor
open Go.RowKit
set_option linter.unusedVariables false

theorem tab_of {w : World} (h : Clk.Tab w) : Hid (∀ W : World, Below w.heap.size w W → Clk.Tab W) := fun W hb => h.below hb
theorem app_nil (A : ByteArray) : A ++ (⟨#[]⟩ : ByteArray) = A := by apply ByteArray.ext; simp
theorem jn2 (m a b : ByteArray) : jn m [a, b] = a ++ m ++ b := by apply ByteArray.ext; simp [jn, wrP]
theorem jn3 (m a b c : ByteArray) : jn m [a, b, c] = a ++ m ++ b ++ m ++ c := by apply ByteArray.ext; simp [jn, wrP]
theorem jn4 (m a b c d : ByteArray) : jn m [a, b, c, d] = a ++ m ++ b ++ m ++ c ++ m ++ d := by apply ByteArray.ext; simp [jn, wrP]
theorem jn5 (m a b c d e : ByteArray) : jn m [a, b, c, d, e] = a ++ m ++ b ++ m ++ c ++ m ++ d ++ m ++ e := by apply ByteArray.ext; simp [jn, wrP]
theorem bx_txt {w : World} {b : Nat} {L : List ByteArray} (h : Bx w b (L.map Value.string)) : ∀ j t, L[j]? = some t → w.cell? ((⟨b, 0, none⟩ : Addr).add j) = some (.string t) := fun j t ht => by
  have := h.c j (v := .string t) (by simp [ht])
  unfold Addr.add
  split
  · rename_i h; subst h; exact this
  · simpa using this
/-- a number's digits. -/
def dg (n : Int) : ByteArray := ⟨(Lib.itoa n).toArray⟩
theorem dg_size (n : Int) (h0 : -9223372036854775808 ≤ n) (h1 : n ≤ 9223372036854775807) : (dg n).size ≤ 21 := by
  have := Lib.itoa_length_le n h0 h1
  simpa [dg, ByteArray.size] using this
def sg (n : Int) : ByteArray := if n < 0 then ⟨#[45]⟩ else ⟨#[43]⟩
theorem je2 (a b : ByteArray) (za : a.size ≤ 900) (zb : b.size ≤ 900) (b' : Nat) (w : World) (h : Bx w b' [.string a, .string b]) :
    Calls Tryz.prog 20 #[.string ⟨#[]⟩, .slice (some ⟨b', 0, none⟩) 2 2] w fun r' w' => r' = .returned (.string (a ++ b)) ∧ Below w.heap.size w w' := by
  have R := joined_any ⟨#[]⟩ [a, b] ⟨b', 0, none⟩ 2 2 rfl (by decide) (by decide) (by decide) (by decide) (by simp only [szL]; omega) w (bx_txt (L := [a, b]) h)
  simp only [jn2, app_nil] at R
  exact R
theorem je3 (a b c : ByteArray) (za : a.size ≤ 900) (zb : b.size ≤ 900) (zc : c.size ≤ 900) (b' : Nat) (w : World) (h : Bx w b' [.string a, .string b, .string c]) :
    Calls Tryz.prog 20 #[.string ⟨#[]⟩, .slice (some ⟨b', 0, none⟩) 3 3] w fun r' w' => r' = .returned (.string (a ++ b ++ c)) ∧ Below w.heap.size w w' := by
  have R := joined_any ⟨#[]⟩ [a, b, c] ⟨b', 0, none⟩ 3 3 rfl (by decide) (by decide) (by decide) (by decide) (by simp only [szL]; omega) w (bx_txt (L := [a, b, c]) h)
  simp only [jn3, app_nil] at R
  exact R
theorem jm3 (m : ByteArray) (hm : m.size ≤ 10) (a b c : ByteArray) (za : a.size ≤ 900) (zb : b.size ≤ 900) (zc : c.size ≤ 900) (b' : Nat) (w : World) (h : Bx w b' [.string a, .string b, .string c]) :
    Calls Tryz.prog 20 #[.string m, .slice (some ⟨b', 0, none⟩) 3 3] w fun r' w' => r' = .returned (.string (a ++ m ++ b ++ m ++ c)) ∧ Below w.heap.size w w' := by
  have R := joined_any m [a, b, c] ⟨b', 0, none⟩ 3 3 rfl (by decide) (by decide) (by decide) hm (by simp only [szL]; omega) w (bx_txt (L := [a, b, c]) h)
  simp only [jn3] at R
  exact R
theorem je4 (a b c d : ByteArray) (za : a.size ≤ 900) (zb : b.size ≤ 900) (zc : c.size ≤ 900) (zd : d.size ≤ 900) (b' : Nat) (w : World) (h : Bx w b' [.string a, .string b, .string c, .string d]) :
    Calls Tryz.prog 20 #[.string ⟨#[]⟩, .slice (some ⟨b', 0, none⟩) 4 4] w fun r' w' => r' = .returned (.string (a ++ b ++ c ++ d)) ∧ Below w.heap.size w w' := by
  have R := joined_any ⟨#[]⟩ [a, b, c, d] ⟨b', 0, none⟩ 4 4 rfl (by decide) (by decide) (by decide) (by decide) (by simp only [szL]; omega) w (bx_txt (L := [a, b, c, d]) h)
  simp only [jn4, app_nil] at R
  exact R
theorem je5 (a b c d e : ByteArray) (za : a.size ≤ 900) (zb : b.size ≤ 900) (zc : c.size ≤ 900) (zd : d.size ≤ 900) (ze : e.size ≤ 900) (b' : Nat) (w : World) (h : Bx w b' [.string a, .string b, .string c, .string d, .string e]) :
    Calls Tryz.prog 20 #[.string ⟨#[]⟩, .slice (some ⟨b', 0, none⟩) 5 5] w fun r' w' => r' = .returned (.string (a ++ b ++ c ++ d ++ e)) ∧ Below w.heap.size w w' := by
  have R := joined_any ⟨#[]⟩ [a, b, c, d, e] ⟨b', 0, none⟩ 5 5 rfl (by decide) (by decide) (by decide) (by decide) (by simp only [szL]; omega) w (bx_txt (L := [a, b, c, d, e]) h)
  simp only [jn5, app_nil] at R
  exact R
set_option maxRecDepth 100000 in
set_option maxHeartbeats 4000000 in
theorem shsize_any (n N : Int) (h0 : -9223372036854775807 ≤ n) (h1 : n ≤ 9223372036854775807) (hN : N = n.natAbs) (w : World) : Calls Tryz.prog 59 #[.int .i64 n] w fun r w' => r = .returned (.int .i64 N) ∧ w' = w := by
  have e : max n (-n) = N := by omega
  have E : Hid (max n (-n) = N) := e
  clear e hN
  go_enter Tryz.func59, Tryz.ntmps59
  go_wp2
  go_ret
  exact ⟨by rw [← E.out]; rfl, rfl⟩

set_option maxRecDepth 100000 in
set_option maxHeartbeats 4000000 in
theorem digits_any (n : Int) (h0 : -9223372036854775808 ≤ n) (h1 : n ≤ 9223372036854775807) (w : World) (hT : Clk.Tab w) : Calls Tryz.prog 60 #[.int .i64 n] w fun r w' => r = .returned (.string (dg n)) ∧ Below w.heap.size w w' := by
  have H : Hid (Calls Tryz.prog 71 #[.int .i64 n, .int .i64 10] w fun e w' => e = .returned (.string (dg n)) ∧ Below w.heap.size w w') := Clk.formatInt_any n h0 h1 w hT
  go_enter Tryz.func60, Tryz.ntmps60
  go_wp2_with fail
  refine H.out.mono ?_
  rintro e W1 ⟨rfl, hb⟩
  have HB : Hid (Below w.heap.size w W1) := hb
  clear hb
  go_wp2
  go_ret
  exact ⟨rfl, HB.out⟩

set_option maxRecDepth 100000 in
set_option maxHeartbeats 4000000 in
theorem sign_any (n : Int) (w : World) : Calls Tryz.prog 61 #[.int .i64 n] w fun r w' => r = .returned (.string (sg n)) ∧ w' = w := by
  unfold sg
  by_cases h : n < 0
  · rw [if_pos h]
    go_enter Tryz.func61, Tryz.ntmps61
    go_wp2
    go_ret
    exact ⟨rfl, rfl⟩
  · rw [if_neg h]
    go_enter Tryz.func61, Tryz.ntmps61
    go_wp2
    go_ret
    exact ⟨rfl, rfl⟩
def mny (n : Int) : ByteArray := if n = 1 then ⟨#[]⟩ else ⟨#[115]⟩
def trn (l n : Int) : ByteArray := if l < 0 ∧ 0 < n then ⟨#[43]⟩ else ⟨#[]⟩

set_option maxRecDepth 100000 in
set_option maxHeartbeats 4000000 in
theorem many_any (n : Int) (w : World) : Calls Tryz.prog 66 #[.int .i64 n] w fun r w' => r = .returned (.string (mny n)) ∧ w' = w := by
  unfold mny
  by_cases h : n = 1
  · subst h
    rw [if_pos rfl]
    go_enter Tryz.func66, Tryz.ntmps66
    go_wp2
    go_ret
    exact ⟨rfl, rfl⟩
  · have h' : (n == 1) = false := by simpa using h
    rw [if_neg h]
    go_enter Tryz.func66, Tryz.ntmps66
    go_wp2
    go_ret
    exact ⟨rfl, rfl⟩

set_option maxRecDepth 100000 in
set_option maxHeartbeats 4000000 in
theorem turn_any (l n : Int) (w : World) : Calls Tryz.prog 65 #[.int .i64 l, .int .i64 n] w fun r w' => r = .returned (.string (trn l n)) ∧ w' = w := by
  unfold trn
  by_cases h : l < 0
  · by_cases g : 0 < n
    · rw [if_pos ⟨h, g⟩]
      go_enter Tryz.func65, Tryz.ntmps65
      go_wp2
      go_ret
      exact ⟨rfl, rfl⟩
    · rw [if_neg (fun q => g q.2)]
      go_enter Tryz.func65, Tryz.ntmps65
      go_wp2
      go_ret
      exact ⟨rfl, rfl⟩
  · rw [if_neg (fun q => h q.1)]
    go_enter Tryz.func65, Tryz.ntmps65
    go_wp2
    go_ret
    exact ⟨rfl, rfl⟩


set_option maxRecDepth 100000 in
set_option maxHeartbeats 4000000 in
theorem mk_0 (l : ByteArray)
    (w : World) :
    Calls Tryz.prog 63 #[.int .i64 0, .string l] w fun r' w' => r' = .returned (.string ⟨#[]⟩) ∧ Below w.heap.size w w' := by
  have K0 : Hid (BS w [] w) := (BS.start w)
  go_enter Tryz.func63, Tryz.ntmps63
  go_wp2
  go_ret
  exact ⟨rfl, K0.out.1⟩


set_option maxRecDepth 100000 in
set_option maxHeartbeats 4000000 in
theorem mk_n (n : Int) (l A : ByteArray) (hn : n ≠ 0)
    (DG : Hid (∀ w : World, Clk.Tab w → Calls Tryz.prog 60 #[.int .i64 n] w fun r' w' => r' = .returned (.string A) ∧ Below w.heap.size w w'))
    (JN : Hid (∀ (b : Nat) (w : World), Bx w b [.string A, .string l] → Calls Tryz.prog 20 #[.string ⟨#[]⟩, .slice (some ⟨b, 0, none⟩) 2 2] w fun r' w' => r' = .returned (.string (A ++ l)) ∧ Below w.heap.size w w'))
    (w : World) (hL : Hid (∀ W : World, Below w.heap.size w W → Clk.Tab W)) :
    Calls Tryz.prog 63 #[.int .i64 n, .string l] w fun r' w' => r' = .returned (.string (A ++ l)) ∧ Below w.heap.size w w' := by
  have n1 : (n == 0) = false := by simpa using hn
  have K0 : Hid (BS w [] w) := (BS.start w)
  go_enter Tryz.func63, Tryz.ntmps63
  go_wp2_with fail
  refine (DG.out _ (hL.out _ K0.out.1)).mono ?_
  rintro e W1 ⟨rfl, hb⟩
  have K1 := bsb K0 hb
  clear hb K0
  have Kj2 : Hid (BS w [(W1.heap.size, [.string A, .string l])] (W1.alloc (.cells #[.string A, .string l] 9))) := K1.out.new [.string A, .string l] 9 rfl
  go_wp2_with fail
  refine (JN.out _ _ (bo1 Kj2)).mono ?_
  rintro e W2 ⟨rfl, hb⟩
  have K2 := bsb Kj2 hb
  clear hb Kj2 K1
  go_wp2
  go_ret
  exact ⟨rfl, K2.out.1⟩


set_option maxRecDepth 100000 in
set_option maxHeartbeats 4000000 in
theorem ms_0 
    (w : World) :
    Calls Tryz.prog 64 #[.int .i64 0] w fun r' w' => r' = .returned (.string ⟨#[]⟩) ∧ Below w.heap.size w w' := by
  have K0 : Hid (BS w [] w) := (BS.start w)
  go_enter Tryz.func64, Tryz.ntmps64
  go_wp2
  go_ret
  exact ⟨rfl, K0.out.1⟩


set_option maxRecDepth 100000 in
set_option maxHeartbeats 4000000 in
theorem ms_n (us u : Int) (A F : ByteArray) (h : us < 0) (u0 : 0 ≤ u) (u9 : u ≤ 9223372036854775807)
    (SZ : Hid (∀ w : World, Calls Tryz.prog 59 #[.int .i64 us] w fun r' w' => r' = .returned (.int .i64 u) ∧ w' = w))
    (DG : Hid (∀ w : World, Clk.Tab w → Calls Tryz.prog 60 #[.int .i64 (u / 1000000)] w fun r' w' => r' = .returned (.string A) ∧ Below w.heap.size w w'))
    (FR : Hid (∀ w : World, Clk.Tab w → Calls Tryz.prog 62 #[.int .i64 (u % 1000000)] w fun r' w' => r' = .returned (.string F) ∧ Below w.heap.size w w'))
    (JN : Hid (∀ (b : Nat) (w : World), Bx w b [.string ⟨#[45]⟩, .string A, .string F, .string ⟨#[83]⟩] → Calls Tryz.prog 20 #[.string ⟨#[]⟩, .slice (some ⟨b, 0, none⟩) 4 4] w fun r' w' => r' = .returned (.string (⟨#[45]⟩ ++ A ++ F ++ ⟨#[83]⟩)) ∧ Below w.heap.size w w'))
    (w : World) (hL : Hid (∀ W : World, Below w.heap.size w W → Clk.Tab W)) :
    Calls Tryz.prog 64 #[.int .i64 us] w fun r' w' => r' = .returned (.string (⟨#[45]⟩ ++ A ++ F ++ ⟨#[83]⟩)) ∧ Below w.heap.size w w' := by
  have n1 : (us == 0) = false := by simp; omega
  have K0 : Hid (BS w [] w) := (BS.start w)
  go_enter Tryz.func64, Tryz.ntmps64
  go_wp2_with fail
  refine (SZ.out _).mono ?_
  rintro e W1 ⟨rfl, hw⟩
  rw [hw]
  clear hw W1
  go_wp2_with fail
  refine (DG.out _ (hL.out _ K0.out.1)).mono ?_
  rintro e W2 ⟨rfl, hb⟩
  have K2 := bsb K0 hb
  clear hb K0
  go_wp2_with fail
  refine (FR.out _ (hL.out _ K2.out.1)).mono ?_
  rintro e W3 ⟨rfl, hb⟩
  have K3 := bsb K2 hb
  clear hb K2
  have Kj4 : Hid (BS w [(W3.heap.size, [.string ⟨#[45]⟩, .string A, .string F, .string ⟨#[83]⟩])] (W3.alloc (.cells #[.string ⟨#[45]⟩, .string A, .string F, .string ⟨#[83]⟩] 9))) := K3.out.new [.string ⟨#[45]⟩, .string A, .string F, .string ⟨#[83]⟩] 9 rfl
  go_wp2_with fail
  refine (JN.out _ _ (bo1 Kj4)).mono ?_
  rintro e W4 ⟨rfl, hb⟩
  have K4 := bsb Kj4 hb
  clear hb Kj4 K3
  go_wp2
  go_ret
  exact ⟨rfl, K4.out.1⟩


set_option maxRecDepth 100000 in
set_option maxHeartbeats 4000000 in
theorem ms_p (us u : Int) (A F : ByteArray) (h : 0 < us) (u0 : 0 ≤ u) (u9 : u ≤ 9223372036854775807)
    (SZ : Hid (∀ w : World, Calls Tryz.prog 59 #[.int .i64 us] w fun r' w' => r' = .returned (.int .i64 u) ∧ w' = w))
    (DG : Hid (∀ w : World, Clk.Tab w → Calls Tryz.prog 60 #[.int .i64 (u / 1000000)] w fun r' w' => r' = .returned (.string A) ∧ Below w.heap.size w w'))
    (FR : Hid (∀ w : World, Clk.Tab w → Calls Tryz.prog 62 #[.int .i64 (u % 1000000)] w fun r' w' => r' = .returned (.string F) ∧ Below w.heap.size w w'))
    (JN : Hid (∀ (b : Nat) (w : World), Bx w b [.string ⟨#[]⟩, .string A, .string F, .string ⟨#[83]⟩] → Calls Tryz.prog 20 #[.string ⟨#[]⟩, .slice (some ⟨b, 0, none⟩) 4 4] w fun r' w' => r' = .returned (.string (⟨#[]⟩ ++ A ++ F ++ ⟨#[83]⟩)) ∧ Below w.heap.size w w'))
    (w : World) (hL : Hid (∀ W : World, Below w.heap.size w W → Clk.Tab W)) :
    Calls Tryz.prog 64 #[.int .i64 us] w fun r' w' => r' = .returned (.string (⟨#[]⟩ ++ A ++ F ++ ⟨#[83]⟩)) ∧ Below w.heap.size w w' := by
  have n1 : (us == 0) = false := by simp; omega
  have n2 : ¬ us < 0 := by omega
  have K0 : Hid (BS w [] w) := (BS.start w)
  go_enter Tryz.func64, Tryz.ntmps64
  go_wp2_with fail
  refine (SZ.out _).mono ?_
  rintro e W1 ⟨rfl, hw⟩
  rw [hw]
  clear hw W1
  go_wp2_with fail
  refine (DG.out _ (hL.out _ K0.out.1)).mono ?_
  rintro e W2 ⟨rfl, hb⟩
  have K2 := bsb K0 hb
  clear hb K0
  go_wp2_with fail
  refine (FR.out _ (hL.out _ K2.out.1)).mono ?_
  rintro e W3 ⟨rfl, hb⟩
  have K3 := bsb K2 hb
  clear hb K2
  have Kj4 : Hid (BS w [(W3.heap.size, [.string ⟨#[]⟩, .string A, .string F, .string ⟨#[83]⟩])] (W3.alloc (.cells #[.string ⟨#[]⟩, .string A, .string F, .string ⟨#[83]⟩] 9))) := K3.out.new [.string ⟨#[]⟩, .string A, .string F, .string ⟨#[83]⟩] 9 rfl
  go_wp2_with fail
  refine (JN.out _ _ (bo1 Kj4)).mono ?_
  rintro e W4 ⟨rfl, hb⟩
  have K4 := bsb Kj4 hb
  clear hb Kj4 K3
  go_wp2
  go_ret
  exact ⟨rfl, K4.out.1⟩



end Go.Proofs.YtmohhbgmbicklaaGreatDoor
