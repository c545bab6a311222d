import Derived.Test.YtklehbmghjcmaaaGreatDoorSz
import Derived.Test.YtklehbmghjcmaaaGreatDoorS2
import Derived.Test.YtklehbmghjcmaaaGreatDoorS1
import Derived.Test.YtklehbmghjcmaaaGreatDoorS0
import Derived.Test.YtklehbmghjcmaaaGreatDoorS20
open Go.Value renaming int → vi
open Go.IntKind renaming i64 → ki
open List renaming setIfInBounds_toArray → zb, set_cons_zero → zc, set_cons_succ → zd
open Go.Act renaming put → za
open Go.Ending renaming returned → zr
set_option maxRecDepth 100000
set_option maxHeartbeats 16000000
set_option linter.unusedVariables false
namespace Go.Proofs.YtklehbmghjcmaaaGreatDoor.Dy
open Go.RowKit
def dok (n : Int) : Bool := decide (-2451507 ≤ n ∧ n ≤ 106751982)
theorem dok_yes {n : Int} (h : dok n = true) : -2451507 ≤ n ∧ n ≤ 106751982 := of_decide_eq_true h
theorem dok_can {n : Int} (h : Cvl.can n = false) : dok n = false := by
 have := of_decide_eq_false h
 exact decide_eq_false (by omega)
theorem can_dok {n : Int} (h : dok n = true) : Cvl.can n = true := by
 have := dok_yes h
 exact Cvl.can_yes (by omega) (by omega)
theorem dok_year {n y m d : Int} (h : Cv.Is n y m d) : dok n = decide (-4712 ≤ y ∧ y ≤ 294276) := by
 obtain ⟨a, b⟩ := Cv.is_year h
 have s1 : Cv.S (-4712) = -2451507 := by decide
 have s2 : Cv.S 294277 = 106751983 := by decide
 unfold dok
 apply decide_eq_decide.2
 constructor
 ·rintro ⟨p, q⟩
  constructor
  ·by_cases k : -4712 ≤ y
   ·exact k
   ·have := Cv.S_mono (show y + 1 ≤ -4712 by omega); omega
  ·by_cases k : y ≤ 294276
   ·exact k
   ·have := Cv.S_mono (show 294277 ≤ y by omega); omega
 ·rintro ⟨p, q⟩
  have h1 := Cv.S_mono p
  have h2 := Cv.S_mono (show y + 1 ≤ 294277 by omega)
  omega
theorem canBe_any (n : Int) (w : World) (hL : Cvl.Lens w) :
  Calls Tryz.prog 77 #[vi ki n] w fun e w' => e = zr (.bool (dok n)) ∧ w' = w := by
 cases hc : Cvl.can n
 ·rw [dok_can hc]
  have D : Hid (∀ w : World, Calls Tryz.prog 126 #[vi ki n] w fun e w' => e = zr (.tuple #[vi ki 0, vi ki 0, vi ki 0, vi ki 10]) ∧ w' = w) := fun w => Cvl.date_no n hc w
  clear hc hL
  go_enter Tryz.func77, Tryz.ntmps77
  go_wp2_with fail
  refine (D.out _).mono ?_
  rintro e w1 ⟨rfl, rfl⟩
  go_wp2
  go_ret
  exact ⟨rfl, rfl⟩
 ·obtain ⟨y, m, d, hd⟩ := Cv.is_date n
  have D : Hid (∀ w : World, Cvl.Lens w → Calls Tryz.prog 126 #[vi ki n] w fun e w' => e = zr (.tuple #[vi ki y, vi ki m, vi ki d, vi ki 0]) ∧ w' = w) := fun w hw => Cvl.date_yes n y m d hc hd w hw
  rw [dok_year hd]
  have hL' : Hid (Cvl.Lens w) := hL
  clear hc hL hd
  by_cases h1 : -4712 ≤ y
  ·by_cases h2 : y ≤ 294276
   ·rw [decide_eq_true ⟨h1, h2⟩]
    go_enter Tryz.func77, Tryz.ntmps77
    go_wp2_with fail
    refine (D.out _ hL'.out).mono ?_
    rintro e w1 ⟨rfl, rfl⟩
    go_wp2
    go_ret
    exact ⟨rfl, rfl⟩
   ·rw [decide_eq_false (fun k => h2 k.2)]
    go_enter Tryz.func77, Tryz.ntmps77
    go_wp2_with fail
    refine (D.out _ hL'.out).mono ?_
    rintro e w1 ⟨rfl, rfl⟩
    go_wp2
    go_ret
    exact ⟨Cvl.ret_bool (by simp; omega), rfl⟩
  ·rw [decide_eq_false (fun k => h1 k.1)]
   go_enter Tryz.func77, Tryz.ntmps77
   go_wp2_with fail
   refine (D.out _ hL'.out).mono ?_
   rintro e w1 ⟨rfl, rfl⟩
   go_wp2
   go_ret
   exact ⟨rfl, rfl⟩
theorem inside_any (n : Int) (w : World) :
  Calls Tryz.prog 83 #[vi ki n] w fun e w' => e = zr (.bool (dok n)) ∧ w' = w := by
 cases hc : Cvl.can n
 ·rw [dok_can hc]
  have D : Hid (∀ w : World, Calls Tryz.prog 106 #[vi ki n] w fun e w' => e = zr (.tuple #[vi ki 0, vi ki 0, vi ki 0, vi ki 10]) ∧ w' = w) := fun w => Cvl.rdate_no n hc w
  clear hc
  go_enter Tryz.func83, Tryz.ntmps83
  go_wp2_with fail
  refine (D.out _).mono ?_
  rintro e w1 ⟨rfl, rfl⟩
  go_wp2
  go_ret
  exact ⟨rfl, rfl⟩
 ·obtain ⟨y, m, d, hd⟩ := Cv.is_date n
  have D : Hid (∀ w : World, Calls Tryz.prog 106 #[vi ki n] w fun e w' => e = zr (.tuple #[vi ki y, vi ki m, vi ki d, vi ki 0]) ∧ w' = w) := fun w => Cvl.rdate_yes n y m d hc hd w
  rw [dok_year hd]
  clear hc hd
  by_cases h1 : -4712 ≤ y
  ·by_cases h2 : y ≤ 294276
   ·rw [decide_eq_true ⟨h1, h2⟩]
    go_enter Tryz.func83, Tryz.ntmps83
    go_wp2_with fail
    refine (D.out _).mono ?_
    rintro e w1 ⟨rfl, rfl⟩
    go_wp2
    go_ret
    exact ⟨rfl, rfl⟩
   ·rw [decide_eq_false (fun k => h2 k.2)]
    go_enter Tryz.func83, Tryz.ntmps83
    go_wp2_with fail
    refine (D.out _).mono ?_
    rintro e w1 ⟨rfl, rfl⟩
    go_wp2
    go_ret
    exact ⟨Cvl.ret_bool (by simp; omega), rfl⟩
  ·rw [decide_eq_false (fun k => h1 k.1)]
   go_enter Tryz.func83, Tryz.ntmps83
   go_wp2_with fail
   refine (D.out _).mono ?_
   rintro e w1 ⟨rfl, rfl⟩
   go_wp2
   go_ret
   exact ⟨rfl, rfl⟩
end Go.Proofs.YtklehbmghjcmaaaGreatDoor.Dy
namespace Go.Proofs.YtklehbmghjcmaaaGreatDoor.Dy
open Go.RowKit
theorem lens_of {w : World} (h : Cvl.Lens w) : Hid (∀ W : World, Below w.heap.size w W → Cvl.Lens W) := fun W hb => Lens_below h hb (Lens_lt h)
theorem ret_bool {a b : Bool} (h : a = b) : Ending.returned (.bool a) = zr (.bool b) := by rw [h]
def dR (i d : Int) : Bool := if i = 0 then dok d else decide ((i = -1 ∨ i = 1) ∧ d = 0)
def sR (i u : Int) : Bool := if i = 0 then dok (u / 86400000000) else decide ((i = -1 ∨ i = 1) ∧ u = 0)
theorem dR_0 (d : Int) : dR 0 d = dok d := rfl
theorem sR_0 (u : Int) : sR 0 u = dok (u / 86400000000) := rfl
theorem dR_1 {i : Int} (h : i ≠ 0) (d : Int) : dR i d = decide ((i = -1 ∨ i = 1) ∧ d = 0) := if_neg h
theorem sR_1 {i : Int} (h : i ≠ 0) (u : Int) : sR i u = decide ((i = -1 ∨ i = 1) ∧ u = 0) := if_neg h
theorem right_0 (d : Int) (c : Bool)
  (C : Hid (∀ w : World, Cvl.Lens w → Calls Tryz.prog 77 #[vi ki d] w fun r' w' => r' = zr (.bool c) ∧ w' = w))
  (w : World) (hL : Hid (∀ W : World, Below w.heap.size w W → Cvl.Lens W)) :
  Calls Tryz.prog 143 #[.agg #[vi ki 0, vi ki d]] w fun r' w' => r' = zr (.bool c) ∧ Below w.heap.size w w' := by
 have K0 := bsn1 w [vi ki 0, vi ki d] 111
 go_enter Tryz.func143, Tryz.ntmps143
 go_wp2_with fail
 refine (C.out _ (hL.out _ K0.out.1)).mono ?_
 rintro e W1 ⟨rfl, rfl⟩
 go_wp2
 go_ret
 exact ⟨rfl, K0.out.1⟩
theorem right_m0 (d : Int) (hd : d = 0)
  (w : World) :
  Calls Tryz.prog 143 #[.agg #[vi ki (-1), vi ki 0]] w fun r' w' => r' = zr (.bool true) ∧ Below w.heap.size w w' := by
 have K0 := bsn1 w [vi ki (-1), vi ki 0] 111
 go_enter Tryz.func143, Tryz.ntmps143
 go_wp2
 go_ret
 exact ⟨rfl, K0.out.1⟩
theorem right_p0 (d : Int) (hd : d = 0)
  (w : World) :
  Calls Tryz.prog 143 #[.agg #[vi ki 1, vi ki 0]] w fun r' w' => r' = zr (.bool true) ∧ Below w.heap.size w w' := by
 have K0 := bsn1 w [vi ki 1, vi ki 0] 111
 go_enter Tryz.func143, Tryz.ntmps143
 go_wp2
 go_ret
 exact ⟨rfl, K0.out.1⟩
theorem right_m1 (d : Int) (hd : d ≠ 0)
  (w : World) :
  Calls Tryz.prog 143 #[.agg #[vi ki (-1), vi ki d]] w fun r' w' => r' = zr (.bool false) ∧ Below w.heap.size w w' := by
 have d0 : (d == 0) = false := by simpa using hd
 have K0 := bsn1 w [vi ki (-1), vi ki d] 111
 go_enter Tryz.func143, Tryz.ntmps143
 go_wp2
 go_ret
 exact ⟨rfl, K0.out.1⟩
theorem right_p1 (d : Int) (hd : d ≠ 0)
  (w : World) :
  Calls Tryz.prog 143 #[.agg #[vi ki 1, vi ki d]] w fun r' w' => r' = zr (.bool false) ∧ Below w.heap.size w w' := by
 have d0 : (d == 0) = false := by simpa using hd
 have K0 := bsn1 w [vi ki 1, vi ki d] 111
 go_enter Tryz.func143, Tryz.ntmps143
 go_wp2
 go_ret
 exact ⟨rfl, K0.out.1⟩
theorem right_x (i d : Int) (h0 : i ≠ 0) (h1 : i ≠ -1) (h2 : i ≠ 1)
  (w : World) :
  Calls Tryz.prog 143 #[.agg #[vi ki i, vi ki d]] w fun r' w' => r' = zr (.bool false) ∧ Below w.heap.size w w' := by
 have g0 : (i == 0) = false := by simpa using h0
 have g1 : (i == -1) = false := by simpa using h1
 have g2 : (i == 1) = false := by simpa using h2
 have K0 := bsn1 w [vi ki i, vi ki d] 111
 go_enter Tryz.func143, Tryz.ntmps143
 go_wp2
 go_ret
 exact ⟨rfl, K0.out.1⟩
theorem rright_0 (d : Int) (c : Bool)
  (C : Hid (∀ w : World, Calls Tryz.prog 83 #[vi ki d] w fun r' w' => r' = zr (.bool c) ∧ w' = w))
  (w : World) :
  Calls Tryz.prog 113 #[.agg #[vi ki 0, vi ki d]] w fun r' w' => r' = zr (.bool c) ∧ Below w.heap.size w w' := by
 have K0 := bsn1 w [vi ki 0, vi ki d] 111
 go_enter Tryz.func113, Tryz.ntmps113
 go_wp2_with fail
 refine (C.out _).mono ?_
 rintro e W1 ⟨rfl, rfl⟩
 go_wp2
 go_ret
 exact ⟨rfl, K0.out.1⟩
theorem rright_m0 (d : Int) (hd : d = 0)
  (w : World) :
  Calls Tryz.prog 113 #[.agg #[vi ki (-1), vi ki 0]] w fun r' w' => r' = zr (.bool true) ∧ Below w.heap.size w w' := by
 have K0 := bsn1 w [vi ki (-1), vi ki 0] 111
 go_enter Tryz.func113, Tryz.ntmps113
 go_wp2
 go_ret
 exact ⟨rfl, K0.out.1⟩
theorem rright_p0 (d : Int) (hd : d = 0)
  (w : World) :
  Calls Tryz.prog 113 #[.agg #[vi ki 1, vi ki 0]] w fun r' w' => r' = zr (.bool true) ∧ Below w.heap.size w w' := by
 have K0 := bsn1 w [vi ki 1, vi ki 0] 111
 go_enter Tryz.func113, Tryz.ntmps113
 go_wp2
 go_ret
 exact ⟨rfl, K0.out.1⟩
theorem rright_m1 (d : Int) (hd : d ≠ 0)
  (w : World) :
  Calls Tryz.prog 113 #[.agg #[vi ki (-1), vi ki d]] w fun r' w' => r' = zr (.bool false) ∧ Below w.heap.size w w' := by
 have d0 : (d == 0) = false := by simpa using hd
 have K0 := bsn1 w [vi ki (-1), vi ki d] 111
 go_enter Tryz.func113, Tryz.ntmps113
 go_wp2
 go_ret
 exact ⟨rfl, K0.out.1⟩
theorem rright_p1 (d : Int) (hd : d ≠ 0)
  (w : World) :
  Calls Tryz.prog 113 #[.agg #[vi ki 1, vi ki d]] w fun r' w' => r' = zr (.bool false) ∧ Below w.heap.size w w' := by
 have d0 : (d == 0) = false := by simpa using hd
 have K0 := bsn1 w [vi ki 1, vi ki d] 111
 go_enter Tryz.func113, Tryz.ntmps113
 go_wp2
 go_ret
 exact ⟨rfl, K0.out.1⟩
theorem rright_x (i d : Int) (h0 : i ≠ 0) (h1 : i ≠ -1) (h2 : i ≠ 1)
  (w : World) :
  Calls Tryz.prog 113 #[.agg #[vi ki i, vi ki d]] w fun r' w' => r' = zr (.bool false) ∧ Below w.heap.size w w' := by
 have g0 : (i == 0) = false := by simpa using h0
 have g1 : (i == -1) = false := by simpa using h1
 have g2 : (i == 1) = false := by simpa using h2
 have K0 := bsn1 w [vi ki i, vi ki d] 111
 go_enter Tryz.func113, Tryz.ntmps113
 go_wp2
 go_ret
 exact ⟨rfl, K0.out.1⟩
theorem rst_0 (d N R : Int) (c : Bool)
  (SP : Hid (∀ w : World, Calls Tryz.prog 76 #[vi ki d] w fun r' w' => r' = zr (.tuple #[vi ki N, vi ki R]) ∧ w' = w))
  (C : Hid (∀ w : World, Cvl.Lens w → Calls Tryz.prog 77 #[vi ki N] w fun r' w' => r' = zr (.bool c) ∧ w' = w))
  (w : World) (hL : Hid (∀ W : World, Below w.heap.size w W → Cvl.Lens W)) :
  Calls Tryz.prog 32 #[.agg #[vi ki 0, vi ki d]] w fun r' w' => r' = zr (.bool c) ∧ Below w.heap.size w w' := by
 have K0 := bsn1 w [vi ki 0, vi ki d] 36
 go_enter Tryz.func32, Tryz.ntmps32
 go_wp2_with fail
 refine (SP.out _).mono ?_
 rintro e W1 ⟨rfl, rfl⟩
 go_wp2_with fail
 refine (C.out _ (hL.out _ K0.out.1)).mono ?_
 rintro e W2 ⟨rfl, rfl⟩
 go_wp2
 go_ret
 exact ⟨rfl, K0.out.1⟩
theorem rst_m0 (d : Int) (hd : d = 0)
  (w : World) :
  Calls Tryz.prog 32 #[.agg #[vi ki (-1), vi ki 0]] w fun r' w' => r' = zr (.bool true) ∧ Below w.heap.size w w' := by
 have K0 := bsn1 w [vi ki (-1), vi ki 0] 36
 go_enter Tryz.func32, Tryz.ntmps32
 go_wp2
 go_ret
 exact ⟨rfl, K0.out.1⟩
theorem rst_p0 (d : Int) (hd : d = 0)
  (w : World) :
  Calls Tryz.prog 32 #[.agg #[vi ki 1, vi ki 0]] w fun r' w' => r' = zr (.bool true) ∧ Below w.heap.size w w' := by
 have K0 := bsn1 w [vi ki 1, vi ki 0] 36
 go_enter Tryz.func32, Tryz.ntmps32
 go_wp2
 go_ret
 exact ⟨rfl, K0.out.1⟩
theorem rst_m1 (d : Int) (hd : d ≠ 0)
  (w : World) :
  Calls Tryz.prog 32 #[.agg #[vi ki (-1), vi ki d]] w fun r' w' => r' = zr (.bool false) ∧ Below w.heap.size w w' := by
 have d0 : (d == 0) = false := by simpa using hd
 have K0 := bsn1 w [vi ki (-1), vi ki d] 36
 go_enter Tryz.func32, Tryz.ntmps32
 go_wp2
 go_ret
 exact ⟨rfl, K0.out.1⟩
theorem rst_p1 (d : Int) (hd : d ≠ 0)
  (w : World) :
  Calls Tryz.prog 32 #[.agg #[vi ki 1, vi ki d]] w fun r' w' => r' = zr (.bool false) ∧ Below w.heap.size w w' := by
 have d0 : (d == 0) = false := by simpa using hd
 have K0 := bsn1 w [vi ki 1, vi ki d] 36
 go_enter Tryz.func32, Tryz.ntmps32
 go_wp2
 go_ret
 exact ⟨rfl, K0.out.1⟩
theorem rst_x (i d : Int) (h0 : i ≠ 0) (h1 : i ≠ -1) (h2 : i ≠ 1)
  (w : World) :
  Calls Tryz.prog 32 #[.agg #[vi ki i, vi ki d]] w fun r' w' => r' = zr (.bool false) ∧ Below w.heap.size w w' := by
 have g0 : (i == 0) = false := by simpa using h0
 have g1 : (i == -1) = false := by simpa using h1
 have g2 : (i == 1) = false := by simpa using h2
 have K0 := bsn1 w [vi ki i, vi ki d] 36
 go_enter Tryz.func32, Tryz.ntmps32
 go_wp2
 go_ret
 exact ⟨rfl, K0.out.1⟩
end Go.Proofs.YtklehbmghjcmaaaGreatDoor.Dy
namespace Go.Proofs.YtklehbmghjcmaaaGreatDoor.Dy
open Go.RowKit
theorem right_any (i d : Int) (w : World) (hL : Cvl.Lens w) :
  Calls Tryz.prog 143 #[.agg #[vi ki i, vi ki d]] w fun e w' => e = zr (.bool (dR i d)) ∧ Below w.heap.size w w' := by
 by_cases h0 : i = 0
 ·subst h0
  rw [dR_0]
  exact right_0 d _ (fun w h => canBe_any _ w h) w (lens_of hL)
 ·rw [dR_1 h0]
  by_cases g1 : i = -1
  ·subst g1
   by_cases k : d = 0
   ·rw [decide_eq_true ⟨.inl rfl, k⟩]; subst k; exact right_m0 0 rfl w
   ·rw [decide_eq_false (fun q => k q.2)]; exact right_m1 d k w
  ·by_cases g2 : i = 1
   ·subst g2
    by_cases k : d = 0
    ·rw [decide_eq_true ⟨.inr rfl, k⟩]; subst k; exact right_p0 0 rfl w
    ·rw [decide_eq_false (fun q => k q.2)]; exact right_p1 d k w
   ·rw [decide_eq_false (fun q => q.1.elim g1 g2)]; exact right_x i d h0 g1 g2 w
theorem rright_any (i d : Int) (w : World) :
  Calls Tryz.prog 113 #[.agg #[vi ki i, vi ki d]] w fun e w' => e = zr (.bool (dR i d)) ∧ Below w.heap.size w w' := by
 by_cases h0 : i = 0
 ·subst h0
  rw [dR_0]
  exact rright_0 d _ (fun w => inside_any _ w) w
 ·rw [dR_1 h0]
  by_cases g1 : i = -1
  ·subst g1
   by_cases k : d = 0
   ·rw [decide_eq_true ⟨.inl rfl, k⟩]; subst k; exact rright_m0 0 rfl w
   ·rw [decide_eq_false (fun q => k q.2)]; exact rright_m1 d k w
  ·by_cases g2 : i = 1
   ·subst g2
    by_cases k : d = 0
    ·rw [decide_eq_true ⟨.inr rfl, k⟩]; subst k; exact rright_p0 0 rfl w
    ·rw [decide_eq_false (fun q => k q.2)]; exact rright_p1 d k w
   ·rw [decide_eq_false (fun q => q.1.elim g1 g2)]; exact rright_x i d h0 g1 g2 w
theorem rst_any (i d : Int) (h1 : -9223372036854775808 ≤ d) (h2 : d ≤ 9223372036854775807) (w : World) (hL : Cvl.Lens w) :
  Calls Tryz.prog 32 #[.agg #[vi ki i, vi ki d]] w fun e w' => e = zr (.bool (sR i d)) ∧ Below w.heap.size w w' := by
 by_cases h0 : i = 0
 ·subst h0
  rw [sR_0]
  exact rst_0 d _ _ _ (fun w => split_any d h1 h2 w) (fun w h => canBe_any _ w h) w (lens_of hL)
 ·rw [sR_1 h0]
  by_cases g1 : i = -1
  ·subst g1
   by_cases k : d = 0
   ·rw [decide_eq_true ⟨.inl rfl, k⟩]; subst k; exact rst_m0 0 rfl w
   ·rw [decide_eq_false (fun q => k q.2)]; exact rst_m1 d k w
  ·by_cases g2 : i = 1
   ·subst g2
    by_cases k : d = 0
    ·rw [decide_eq_true ⟨.inr rfl, k⟩]; subst k; exact rst_p0 0 rfl w
    ·rw [decide_eq_false (fun q => k q.2)]; exact rst_p1 d k w
   ·rw [decide_eq_false (fun q => q.1.elim g1 g2)]; exact rst_x i d h0 g1 g2 w
def oV (n e : Int) : Int := if e = 0 ∧ dok n = true then n else 0
def oE (n e : Int) : Int := if e = 0 ∧ dok n = true then 0 else 10
theorem o_yes {n : Int} (h : dok n = true) : oV n 0 = n ∧ oE n 0 = 0 := ⟨if_pos ⟨rfl, h⟩, if_pos ⟨rfl, h⟩⟩
theorem o_no {n e : Int} (h : e ≠ 0 ∨ dok n = false) : oV n e = 0 ∧ oE n e = 10 := by
 have k : ¬ (e = 0 ∧ dok n = true) := fun q => h.elim (fun z => z q.1) (fun z => by rw [z] at q; exact absurd q.2 (by decide))
 exact ⟨if_neg k, if_neg k⟩
theorem of_bad (n e : Int) (he : e ≠ 0)
  (w : World) :
  Calls Tryz.prog 186 #[vi ki n, vi ki e] w fun r' w' => r' = zr (.tuple #[.agg #[vi ki 0, vi ki 0], vi ki 10]) ∧ Below w.heap.size w w' := by
 have e1 : (e != 0) = true := bne_iff_ne.2 he
 have K0 := bsn1 w [vi ki 0, vi ki 0] 111
 go_enter Tryz.func186, Tryz.ntmps186
 go_wp2
 exact bodyPost_ret (v := .tuple #[.agg #[vi ki 0, vi ki 0], vi ki 10]) (by simp [results, Tryz.results186, go_sem]) rfl ⟨rfl, (by repeat' (first | assumption | exact Below.refl _ _ | exact Nat.le_refl _ | refine Below.alloc ?_ ?_ _ | (simp; done) | (simp; omega) | omega))⟩
theorem of_true (n : Int)
  (C : Hid (∀ w : World, Cvl.Lens w → Calls Tryz.prog 77 #[vi ki n] w fun r' w' => r' = zr (.bool true) ∧ w' = w))
  (w : World) (hL : Hid (∀ W : World, Below w.heap.size w W → Cvl.Lens W)) :
  Calls Tryz.prog 186 #[vi ki n, vi ki 0] w fun r' w' => r' = zr (.tuple #[.agg #[vi ki 0, vi ki n], vi ki 0]) ∧ Below w.heap.size w w' := by
 have K0 := bsn1 w [vi ki 0, vi ki 0] 111
 go_enter Tryz.func186, Tryz.ntmps186
 go_wp2_with fail
 refine (C.out _ (hL.out _ K0.out.1)).mono ?_
 rintro e W1 ⟨rfl, rfl⟩
 go_wp2
 exact bodyPost_ret (v := .tuple #[.agg #[vi ki 0, vi ki n], vi ki 0]) (by simp [results, Tryz.results186, go_sem]) rfl ⟨rfl, (by repeat' (first | assumption | exact Below.refl _ _ | exact Nat.le_refl _ | refine Below.alloc ?_ ?_ _ | (simp; done) | (simp; omega) | omega))⟩
theorem of_false (n : Int)
  (C : Hid (∀ w : World, Cvl.Lens w → Calls Tryz.prog 77 #[vi ki n] w fun r' w' => r' = zr (.bool false) ∧ w' = w))
  (w : World) (hL : Hid (∀ W : World, Below w.heap.size w W → Cvl.Lens W)) :
  Calls Tryz.prog 186 #[vi ki n, vi ki 0] w fun r' w' => r' = zr (.tuple #[.agg #[vi ki 0, vi ki 0], vi ki 10]) ∧ Below w.heap.size w w' := by
 have K0 := bsn1 w [vi ki 0, vi ki 0] 111
 go_enter Tryz.func186, Tryz.ntmps186
 go_wp2_with fail
 refine (C.out _ (hL.out _ K0.out.1)).mono ?_
 rintro e W1 ⟨rfl, rfl⟩
 go_wp2
 exact bodyPost_ret (v := .tuple #[.agg #[vi ki 0, vi ki 0], vi ki 10]) (by simp [results, Tryz.results186, go_sem]) rfl ⟨rfl, (by repeat' (first | assumption | exact Below.refl _ _ | exact Nat.le_refl _ | refine Below.alloc ?_ ?_ _ | (simp; done) | (simp; omega) | omega))⟩
theorem of_any (n e : Int) (w : World) (hL : Cvl.Lens w) :
  Calls Tryz.prog 186 #[vi ki n, vi ki e] w fun r w' => r = zr (.tuple #[.agg #[vi ki 0, vi ki (oV n e)], vi ki (oE n e)]) ∧ Below w.heap.size w w' := by
 by_cases he : e = 0
 ·subst he
  cases h : dok n
  ·rw [(o_no (.inr h)).1, (o_no (.inr h)).2]; exact of_false n (fun w hh => by rw [← h]; exact canBe_any n w hh) w (lens_of hL)
  ·rw [(o_yes h).1, (o_yes h).2]; exact of_true n (fun w hh => by rw [← h]; exact canBe_any n w hh) w (lens_of hL)
 ·rw [(o_no (.inl he)).1, (o_no (.inl he)).2]; exact of_bad n e he w
theorem days_meth (b n v e : Int)
  (A : Hid (∀ w : World, Calls Tryz.prog 81 #[vi ki n, vi ki b] w fun r' w' => r' = zr (.tuple #[vi ki v, vi ki e]) ∧ w' = w))
  (w : World) :
  Calls Tryz.prog 142 #[vi ki b, vi ki n] w fun r' w' => r' = zr (.tuple #[vi ki v, vi ki e]) ∧ w' = w := by
 go_enter Tryz.func142, Tryz.ntmps142
 go_wp2_with fail
 refine (A.out _).mono ?_
 rintro e W1 ⟨rfl, rfl⟩
 go_wp2
 go_ret2
 exact ⟨rfl, rfl⟩
theorem months_meth (b n v e : Int)
  (A : Hid (∀ w : World, Cvl.Lens w → Calls Tryz.prog 187 #[vi ki n, vi ki b] w fun r' w' => r' = zr (.tuple #[vi ki v, vi ki e]) ∧ w' = w))
  (w : World) (hL : Hid (∀ W : World, Below w.heap.size w W → Cvl.Lens W)) :
  Calls Tryz.prog 141 #[vi ki b, vi ki n] w fun r' w' => r' = zr (.tuple #[vi ki v, vi ki e]) ∧ w' = w := by
 have K0 : Hid (BS w [] w) := (BS.start w)
 go_enter Tryz.func141, Tryz.ntmps141
 go_wp2_with fail
 refine (A.out _ (hL.out _ K0.out.1)).mono ?_
 rintro e W1 ⟨rfl, rfl⟩
 go_wp2
 go_ret2
 exact ⟨rfl, rfl⟩
end Go.Proofs.YtklehbmghjcmaaaGreatDoor.Dy
