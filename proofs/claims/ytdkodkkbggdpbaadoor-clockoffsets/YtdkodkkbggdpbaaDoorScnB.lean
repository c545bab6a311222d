/- Contract of the reference's Read: what a scan of the text comes to. -/
import Derived.Test.YtdkodkkbggdpbaaDoorScnA
namespace Go.Proofs.YtdkodkkbggdpbaaDoor
open Go.RowKit
set_option linter.unusedVariables false

def rA (l : List UInt8) : List UInt8 := digs 2 l
def rL1 (l : List UInt8) : List UInt8 := l.drop (rA l).length
def rL2 (l : List UInt8) : List UInt8 := sgnL 58 (rL1 l)
def rM (l : List UInt8) : List UInt8 := digs 2 (rL2 l)
def rL3 (l : List UInt8) : List UInt8 := (rL2 l).drop (rM l).length
def rL4 (l : List UInt8) : List UInt8 := sgnL 58 (rL3 l)
def rS (l : List UInt8) : List UInt8 := digs 2 (rL4 l)
def rL5 (l : List UInt8) : List UInt8 := (rL4 l).drop (rS l).length
def rL6 (l : List UInt8) : List UInt8 := sgnL 46 (rL5 l)
def rU (l : List UInt8) : List UInt8 := digs 6 (rL6 l)
def rL7 (l : List UInt8) : List UInt8 := (rL6 l).drop (rU l).length
/-- what was wrong, up to the minutes, the seconds, the fraction. -/
def rQ1 (l : List UInt8) : Bool := false || decide ((rA l).length < 1)
def rQ2 (l : List UInt8) : Bool := if sgnB 58 (rL1 l) = true then rQ1 l else true
def rQ3 (l : List UInt8) : Bool := rQ2 l || decide ((rM l).length < 2)
def rQ5 (l : List UInt8) : Bool := rQ3 l || decide ((rS l).length < 2)
def rQ7 (l : List UInt8) : Bool := rQ5 l || decide ((rU l).length < 1)
/-- the answer, if nothing is wrong and nothing left. -/
def rdV (q : Bool) (r : List UInt8) (v : Int) : Int := if q = false ∧ r = [] then v else 0
def rdE (q : Bool) (r : List UInt8) (e : Int) : Int := if q = false ∧ r = [] then e else 13
theorem rd_yes {q : Bool} {r : List UInt8} (h : q = false) (g : r = []) (v e : Int) : rdV q r v = v ∧ rdE q r e = e := ⟨if_pos ⟨h, g⟩, if_pos ⟨h, g⟩⟩
theorem rd_bad {q : Bool} {r : List UInt8} (h : q = true) (v e : Int) : rdV q r v = 0 ∧ rdE q r e = 13 := ⟨if_neg (fun k => by rw [h] at k; exact absurd k.1 (by decide)), if_neg (fun k => by rw [h] at k; exact absurd k.1 (by decide))⟩
theorem rd_left {q : Bool} {r : List UInt8} (g : r ≠ []) (v e : Int) : rdV q r v = 0 ∧ rdE q r e = 13 := ⟨if_neg (fun k => g k.2), if_neg (fun k => g k.2)⟩

theorem SBox.new (w : World) (l : List UInt8) (s : ByteArray) (hs : s = ⟨l.toArray⟩) (t : TypeId) : SBox (w.alloc (.cells #[.string s, .bool false] t)) w.heap.size l false := by
  subst hs
  exact ⟨by simp, by rw [World.cell?_alloc_at _ _ _ _ rfl]; rfl, by rw [World.cell?_alloc_at _ _ _ _ rfl]; rfl, by rw [World.frozen?_alloc_at _ _ _ _ rfl], by rw [World.frozen?_alloc_at _ _ _ _ rfl]⟩
theorem sgnL_len (c : UInt8) (l : List UInt8) : (sgnL c l).length ≤ l.length := by
  cases l with
  | nil => exact Nat.le_refl _
  | cons x r =>
    show (if x = c then r else x :: r).length ≤ _
    split <;> simp

set_option maxRecDepth 100000 in
set_option maxHeartbeats 8000000 in
theorem eread_1 (l : List UInt8) (hl : l.length ≤ 140737488351232) (hc2 : sgnB 58 (rL3 l) = false) (w : World) :
    Calls Tryd.prog 10 #[.string ⟨l.toArray⟩] w fun e w' => e = .returned (.tuple #[.int .i64 (rdV (rQ3 l) (rL4 l) (mkV (valD 0 (rA l)) (valD 0 (rM l)) 0 0)), .int .i64 (rdE (rQ3 l) (rL4 l) (mkE (valD 0 (rA l)) (valD 0 (rM l)) 0 0))]) ∧ Below w.heap.size w w' := by
  have HM : Hid (∀ w : World, Calls Tryd.prog 39 #[.int .i64 (valD 0 (rA l)), .int .i64 (valD 0 (rM l)), .int .i64 0, .int .i64 0] w fun e w' => e = .returned (.tuple #[.int .i64 (mkV (valD 0 (rA l)) (valD 0 (rM l)) 0 0), .int .i64 (mkE (valD 0 (rA l)) (valD 0 (rM l)) 0 0)]) ∧ w' = w) := rmake_any _ _ _ _
  have k1 : (rL1 l).length ≤ l.length := by unfold rL1; simp
  have k2 : (rL2 l).length ≤ (rL1 l).length := sgnL_len _ _
  have k3 : (rL3 l).length ≤ (rL2 l).length := by unfold rL3; simp
  have k4 : (rL4 l).length ≤ (rL3 l).length := sgnL_len _ _
  obtain ⟨V, hV⟩ : ∃ V, V = mkV (valD 0 (rA l)) (valD 0 (rM l)) 0 0 := ⟨_, rfl⟩
  obtain ⟨E, hE⟩ : ∃ E, E = mkE (valD 0 (rA l)) (valD 0 (rM l)) 0 0 := ⟨_, rfl⟩
  rw [← hV, ← hE] at HM ⊢
  clear hV hE
  obtain ⟨a, ha⟩ : ∃ a, a = valD 0 (rA l) := ⟨_, rfl⟩
  obtain ⟨m, hm⟩ : ∃ m, m = valD 0 (rM l) := ⟨_, rfl⟩
  have N1 : Hid (∀ W : World, SBox W w.heap.size l false → Calls Tryd.prog 37 #[.pointer (some ⟨w.heap.size, 0, none⟩), .int .i64 1, .int .i64 2] W fun e w' => e = .returned (.int .i64 a) ∧ SBox w' w.heap.size (rL1 l) (rQ1 l) ∧ Below w.heap.size W w') := fun W S => by rw [ha]; exact num_any w.heap.size l false 1 2 (by decide) (by decide) W S hl
  have N2 : Hid (∀ W : World, SBox W w.heap.size (rL2 l) (rQ2 l) → Calls Tryd.prog 37 #[.pointer (some ⟨w.heap.size, 0, none⟩), .int .i64 2, .int .i64 2] W fun e w' => e = .returned (.int .i64 m) ∧ SBox w' w.heap.size (rL3 l) (rQ3 l) ∧ Below w.heap.size W w') := fun W S => by rw [hm]; exact num_any w.heap.size (rL2 l) (rQ2 l) 2 2 (by decide) (by decide) W S (by omega)
  have G1 : Hid (∀ W : World, SBox W w.heap.size (rL1 l) (rQ1 l) → Calls Tryd.prog 38 #[.pointer (some ⟨w.heap.size, 0, none⟩), .int .u8 58] W fun e w' => e = .returned (.bool (sgnB 58 (rL1 l))) ∧ SBox w' w.heap.size (rL2 l) (rQ1 l) ∧ Below w.heap.size W w') := fun W S => sign_any w.heap.size (rL1 l) (rQ1 l) 58 W S (by omega)
  have G2 : Hid (∀ W : World, SBox W w.heap.size (rL3 l) (rQ3 l) → Calls Tryd.prog 38 #[.pointer (some ⟨w.heap.size, 0, none⟩), .int .u8 58] W fun e w' => e = .returned (.bool false) ∧ SBox w' w.heap.size (rL4 l) (rQ3 l) ∧ Below w.heap.size W w') := fun W S => by rw [← hc2]; exact sign_any w.heap.size (rL3 l) (rQ3 l) 58 W S (by omega)
  rw [← ha, ← hm] at HM
  have hQ2 : Hid (rQ2 l = if sgnB 58 (rL1 l) = true then rQ1 l else true) := rfl
  obtain ⟨R, hR⟩ : ∃ R, R = rL4 l := ⟨_, rfl⟩
  rw [← hR] at G2 ⊢
  have hRl : R.length ≤ 140737488351232 := by rw [hR]; omega
  generalize rQ3 l = q3 at *
  generalize rQ2 l = q2 at *
  generalize rQ1 l = q1 at *
  generalize rL3 l = l3 at *
  generalize rL2 l = l2 at *
  generalize rL1 l = l1 at *
  clear k1 k2 k3 k4 ha hm hR hc2
  obtain ⟨s, hs⟩ : ∃ s : ByteArray, s = ⟨l.toArray⟩ := ⟨_, rfl⟩
  rw [← hs]
  have S0 : Hid (SBox (w.alloc (.cells #[.string s, .bool false] 65)) w.heap.size l false) := SBox.new w l s hs _
  have B0 : Hid (Below w.heap.size w (w.alloc (.cells #[.string s, .bool false] 65))) := (Below.refl _ _).alloc (Nat.le_refl _) _
  clear hs hl
  cases hg1 : sgnB 58 l1
  · rw [hg1] at G1 hQ2
    cases q3
    · cases R with
      | nil =>
        rw [(rd_yes rfl rfl V E).1, (rd_yes rfl rfl V E).2]
        have e2 : q2 = true := hQ2.out.trans (if_neg (by decide))
        subst e2
        go_enter Tryd.func10, Tryd.ntmps10
        go_wp2_with fail
        refine (N1.out _ S0.out).mono ?_
        rintro e w1 ⟨rfl, S1, b1⟩
        have B1 : Hid (Below w.heap.size w w1) := B0.out.trans b1
        have S1' : Hid (SBox w1 w.heap.size l1 q1) := S1
        clear b1 S1 B0 S0
        go_wp2_with fail
        refine (G1.out _ S1'.out).mono ?_
        rintro e w2 ⟨rfl, S2, b2⟩
        have B2 : Hid (Below w.heap.size w w2) := B1.out.trans b2
        have S2' : Hid (SBox w2 w.heap.size l2 q1) := S2
        clear b2 S1' B1
        obtain ⟨z1, z2, z3, z4, z5⟩ := S2
        go_wp2_with fail
        refine (N2.out _ (S2'.out.set1 true)).mono ?_
        rintro e w3 ⟨rfl, S3, b3⟩
        have B3 : Hid (Below w.heap.size w w3) := (B2.out.setCell (show w.heap.size ≤ w.heap.size from Nat.le_refl _) _).trans b3
        clear z1 z2 z3 z4 z5
        have S3' : Hid (SBox w3 w.heap.size l3 false) := S3
        clear b3 S3 S2' B2
        go_wp2_with fail
        refine (G2.out _ S3'.out).mono ?_
        rintro e w4 ⟨rfl, S4, b4⟩
        have B4 : Hid (Below w.heap.size w w4) := B3.out.trans b4
        clear b4 S3' B3
        obtain ⟨f1, f2, f3, f4, f5⟩ := S4
        have f2' : w4.cell? ⟨w.heap.size, 0, none⟩ = some (.string ⟨#[]⟩) := f2
        clear f2
        go_wp2_with fail
        refine (HM.out _).mono ?_
        rintro e w5 ⟨rfl, rfl⟩
        go_wp2
        go_ret2
        exact ⟨rfl, B4.out⟩
      | cons x r =>
        rw [(rd_left (by simp) V E).1, (rd_left (by simp) V E).2]
        have e2 : q2 = true := hQ2.out.trans (if_neg (by decide))
        subst e2
        go_enter Tryd.func10, Tryd.ntmps10
        go_wp2_with fail
        refine (N1.out _ S0.out).mono ?_
        rintro e w1 ⟨rfl, S1, b1⟩
        have B1 : Hid (Below w.heap.size w w1) := B0.out.trans b1
        have S1' : Hid (SBox w1 w.heap.size l1 q1) := S1
        clear b1 S1 B0 S0
        go_wp2_with fail
        refine (G1.out _ S1'.out).mono ?_
        rintro e w2 ⟨rfl, S2, b2⟩
        have B2 : Hid (Below w.heap.size w w2) := B1.out.trans b2
        have S2' : Hid (SBox w2 w.heap.size l2 q1) := S2
        clear b2 S1' B1
        obtain ⟨z1, z2, z3, z4, z5⟩ := S2
        go_wp2_with fail
        refine (N2.out _ (S2'.out.set1 true)).mono ?_
        rintro e w3 ⟨rfl, S3, b3⟩
        have B3 : Hid (Below w.heap.size w w3) := (B2.out.setCell (show w.heap.size ≤ w.heap.size from Nat.le_refl _) _).trans b3
        clear z1 z2 z3 z4 z5
        have S3' : Hid (SBox w3 w.heap.size l3 false) := S3
        clear b3 S3 S2' B2
        go_wp2_with fail
        refine (G2.out _ S3'.out).mono ?_
        rintro e w4 ⟨rfl, S4, b4⟩
        have B4 : Hid (Below w.heap.size w w4) := B3.out.trans b4
        clear b4 S3' B3
        obtain ⟨f1, f2, f3, f4, f5⟩ := S4
        obtain ⟨s4, hs4⟩ : ∃ s4 : ByteArray, s4 = ⟨(x :: r).toArray⟩ := ⟨_, rfl⟩
        rw [← hs4] at f2
        have hsz : s4.size = r.length + 1 := by rw [hs4]; show (x :: r).toArray.size = _; simp
        have hpos : (0 : Int) < (r.length : Int) + 1 := by omega
        clear hs4
        go_wp2
        go_ret2
        exact ⟨rfl, B4.out⟩
    · cases R with
      | nil =>
        rw [(rd_bad rfl V E).1, (rd_bad rfl V E).2]
        have e2 : q2 = true := hQ2.out.trans (if_neg (by decide))
        subst e2
        go_enter Tryd.func10, Tryd.ntmps10
        go_wp2_with fail
        refine (N1.out _ S0.out).mono ?_
        rintro e w1 ⟨rfl, S1, b1⟩
        have B1 : Hid (Below w.heap.size w w1) := B0.out.trans b1
        have S1' : Hid (SBox w1 w.heap.size l1 q1) := S1
        clear b1 S1 B0 S0
        go_wp2_with fail
        refine (G1.out _ S1'.out).mono ?_
        rintro e w2 ⟨rfl, S2, b2⟩
        have B2 : Hid (Below w.heap.size w w2) := B1.out.trans b2
        have S2' : Hid (SBox w2 w.heap.size l2 q1) := S2
        clear b2 S1' B1
        obtain ⟨z1, z2, z3, z4, z5⟩ := S2
        go_wp2_with fail
        refine (N2.out _ (S2'.out.set1 true)).mono ?_
        rintro e w3 ⟨rfl, S3, b3⟩
        have B3 : Hid (Below w.heap.size w w3) := (B2.out.setCell (show w.heap.size ≤ w.heap.size from Nat.le_refl _) _).trans b3
        clear z1 z2 z3 z4 z5
        have S3' : Hid (SBox w3 w.heap.size l3 true) := S3
        clear b3 S3 S2' B2
        go_wp2_with fail
        refine (G2.out _ S3'.out).mono ?_
        rintro e w4 ⟨rfl, S4, b4⟩
        have B4 : Hid (Below w.heap.size w w4) := B3.out.trans b4
        clear b4 S3' B3
        obtain ⟨f1, f2, f3, f4, f5⟩ := S4
        go_wp2
        go_ret2
        exact ⟨rfl, B4.out⟩
      | cons x r =>
        rw [(rd_bad rfl V E).1, (rd_bad rfl V E).2]
        have e2 : q2 = true := hQ2.out.trans (if_neg (by decide))
        subst e2
        go_enter Tryd.func10, Tryd.ntmps10
        go_wp2_with fail
        refine (N1.out _ S0.out).mono ?_
        rintro e w1 ⟨rfl, S1, b1⟩
        have B1 : Hid (Below w.heap.size w w1) := B0.out.trans b1
        have S1' : Hid (SBox w1 w.heap.size l1 q1) := S1
        clear b1 S1 B0 S0
        go_wp2_with fail
        refine (G1.out _ S1'.out).mono ?_
        rintro e w2 ⟨rfl, S2, b2⟩
        have B2 : Hid (Below w.heap.size w w2) := B1.out.trans b2
        have S2' : Hid (SBox w2 w.heap.size l2 q1) := S2
        clear b2 S1' B1
        obtain ⟨z1, z2, z3, z4, z5⟩ := S2
        go_wp2_with fail
        refine (N2.out _ (S2'.out.set1 true)).mono ?_
        rintro e w3 ⟨rfl, S3, b3⟩
        have B3 : Hid (Below w.heap.size w w3) := (B2.out.setCell (show w.heap.size ≤ w.heap.size from Nat.le_refl _) _).trans b3
        clear z1 z2 z3 z4 z5
        have S3' : Hid (SBox w3 w.heap.size l3 true) := S3
        clear b3 S3 S2' B2
        go_wp2_with fail
        refine (G2.out _ S3'.out).mono ?_
        rintro e w4 ⟨rfl, S4, b4⟩
        have B4 : Hid (Below w.heap.size w w4) := B3.out.trans b4
        clear b4 S3' B3
        obtain ⟨f1, f2, f3, f4, f5⟩ := S4
        go_wp2
        go_ret2
        exact ⟨rfl, B4.out⟩
  · rw [hg1] at G1 hQ2
    cases q3
    · cases R with
      | nil =>
        rw [(rd_yes rfl rfl V E).1, (rd_yes rfl rfl V E).2]
        have e2 : q1 = q2 := (hQ2.out.trans (if_pos rfl)).symm
        subst e2
        go_enter Tryd.func10, Tryd.ntmps10
        go_wp2_with fail
        refine (N1.out _ S0.out).mono ?_
        rintro e w1 ⟨rfl, S1, b1⟩
        have B1 : Hid (Below w.heap.size w w1) := B0.out.trans b1
        have S1' : Hid (SBox w1 w.heap.size l1 q1) := S1
        clear b1 S1 B0 S0
        go_wp2_with fail
        refine (G1.out _ S1'.out).mono ?_
        rintro e w2 ⟨rfl, S2, b2⟩
        have B2 : Hid (Below w.heap.size w w2) := B1.out.trans b2
        have S2' : Hid (SBox w2 w.heap.size l2 q1) := S2
        clear b2 S1' B1
        clear S2
        go_wp2_with fail
        refine (N2.out _ S2'.out).mono ?_
        rintro e w3 ⟨rfl, S3, b3⟩
        have B3 : Hid (Below w.heap.size w w3) := B2.out.trans b3
        have S3' : Hid (SBox w3 w.heap.size l3 false) := S3
        clear b3 S3 S2' B2
        go_wp2_with fail
        refine (G2.out _ S3'.out).mono ?_
        rintro e w4 ⟨rfl, S4, b4⟩
        have B4 : Hid (Below w.heap.size w w4) := B3.out.trans b4
        clear b4 S3' B3
        obtain ⟨f1, f2, f3, f4, f5⟩ := S4
        have f2' : w4.cell? ⟨w.heap.size, 0, none⟩ = some (.string ⟨#[]⟩) := f2
        clear f2
        go_wp2_with fail
        refine (HM.out _).mono ?_
        rintro e w5 ⟨rfl, rfl⟩
        go_wp2
        go_ret2
        exact ⟨rfl, B4.out⟩
      | cons x r =>
        rw [(rd_left (by simp) V E).1, (rd_left (by simp) V E).2]
        have e2 : q1 = q2 := (hQ2.out.trans (if_pos rfl)).symm
        subst e2
        go_enter Tryd.func10, Tryd.ntmps10
        go_wp2_with fail
        refine (N1.out _ S0.out).mono ?_
        rintro e w1 ⟨rfl, S1, b1⟩
        have B1 : Hid (Below w.heap.size w w1) := B0.out.trans b1
        have S1' : Hid (SBox w1 w.heap.size l1 q1) := S1
        clear b1 S1 B0 S0
        go_wp2_with fail
        refine (G1.out _ S1'.out).mono ?_
        rintro e w2 ⟨rfl, S2, b2⟩
        have B2 : Hid (Below w.heap.size w w2) := B1.out.trans b2
        have S2' : Hid (SBox w2 w.heap.size l2 q1) := S2
        clear b2 S1' B1
        clear S2
        go_wp2_with fail
        refine (N2.out _ S2'.out).mono ?_
        rintro e w3 ⟨rfl, S3, b3⟩
        have B3 : Hid (Below w.heap.size w w3) := B2.out.trans b3
        have S3' : Hid (SBox w3 w.heap.size l3 false) := S3
        clear b3 S3 S2' B2
        go_wp2_with fail
        refine (G2.out _ S3'.out).mono ?_
        rintro e w4 ⟨rfl, S4, b4⟩
        have B4 : Hid (Below w.heap.size w w4) := B3.out.trans b4
        clear b4 S3' B3
        obtain ⟨f1, f2, f3, f4, f5⟩ := S4
        obtain ⟨s4, hs4⟩ : ∃ s4 : ByteArray, s4 = ⟨(x :: r).toArray⟩ := ⟨_, rfl⟩
        rw [← hs4] at f2
        have hsz : s4.size = r.length + 1 := by rw [hs4]; show (x :: r).toArray.size = _; simp
        have hpos : (0 : Int) < (r.length : Int) + 1 := by omega
        clear hs4
        go_wp2
        go_ret2
        exact ⟨rfl, B4.out⟩
    · cases R with
      | nil =>
        rw [(rd_bad rfl V E).1, (rd_bad rfl V E).2]
        have e2 : q1 = q2 := (hQ2.out.trans (if_pos rfl)).symm
        subst e2
        go_enter Tryd.func10, Tryd.ntmps10
        go_wp2_with fail
        refine (N1.out _ S0.out).mono ?_
        rintro e w1 ⟨rfl, S1, b1⟩
        have B1 : Hid (Below w.heap.size w w1) := B0.out.trans b1
        have S1' : Hid (SBox w1 w.heap.size l1 q1) := S1
        clear b1 S1 B0 S0
        go_wp2_with fail
        refine (G1.out _ S1'.out).mono ?_
        rintro e w2 ⟨rfl, S2, b2⟩
        have B2 : Hid (Below w.heap.size w w2) := B1.out.trans b2
        have S2' : Hid (SBox w2 w.heap.size l2 q1) := S2
        clear b2 S1' B1
        clear S2
        go_wp2_with fail
        refine (N2.out _ S2'.out).mono ?_
        rintro e w3 ⟨rfl, S3, b3⟩
        have B3 : Hid (Below w.heap.size w w3) := B2.out.trans b3
        have S3' : Hid (SBox w3 w.heap.size l3 true) := S3
        clear b3 S3 S2' B2
        go_wp2_with fail
        refine (G2.out _ S3'.out).mono ?_
        rintro e w4 ⟨rfl, S4, b4⟩
        have B4 : Hid (Below w.heap.size w w4) := B3.out.trans b4
        clear b4 S3' B3
        obtain ⟨f1, f2, f3, f4, f5⟩ := S4
        go_wp2
        go_ret2
        exact ⟨rfl, B4.out⟩
      | cons x r =>
        rw [(rd_bad rfl V E).1, (rd_bad rfl V E).2]
        have e2 : q1 = q2 := (hQ2.out.trans (if_pos rfl)).symm
        subst e2
        go_enter Tryd.func10, Tryd.ntmps10
        go_wp2_with fail
        refine (N1.out _ S0.out).mono ?_
        rintro e w1 ⟨rfl, S1, b1⟩
        have B1 : Hid (Below w.heap.size w w1) := B0.out.trans b1
        have S1' : Hid (SBox w1 w.heap.size l1 q1) := S1
        clear b1 S1 B0 S0
        go_wp2_with fail
        refine (G1.out _ S1'.out).mono ?_
        rintro e w2 ⟨rfl, S2, b2⟩
        have B2 : Hid (Below w.heap.size w w2) := B1.out.trans b2
        have S2' : Hid (SBox w2 w.heap.size l2 q1) := S2
        clear b2 S1' B1
        clear S2
        go_wp2_with fail
        refine (N2.out _ S2'.out).mono ?_
        rintro e w3 ⟨rfl, S3, b3⟩
        have B3 : Hid (Below w.heap.size w w3) := B2.out.trans b3
        have S3' : Hid (SBox w3 w.heap.size l3 true) := S3
        clear b3 S3 S2' B2
        go_wp2_with fail
        refine (G2.out _ S3'.out).mono ?_
        rintro e w4 ⟨rfl, S4, b4⟩
        have B4 : Hid (Below w.heap.size w w4) := B3.out.trans b4
        clear b4 S3' B3
        obtain ⟨f1, f2, f3, f4, f5⟩ := S4
        go_wp2
        go_ret2
        exact ⟨rfl, B4.out⟩

end Go.Proofs.YtdkodkkbggdpbaaDoor
