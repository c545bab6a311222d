/- Contract of the reference's ReadOffset. -/
import Derived.Test.YtdkodkkbggdpbaaDoorOffMath
import Derived.Deep.DeepCutAuto
namespace Go.Proofs.YtdkodkkbggdpbaaDoor
open Go.RowKit
set_option linter.unusedVariables false

def sg (neg : Bool) (v : Int) : Int := if neg = true then -v else v
theorem sg_zero (neg : Bool) : sg neg 0 = 0 := by cases neg <;> rfl

theorem rl1_len (q : List UInt8) : (rL1 q).length ≤ q.length := by unfold rL1; simp
theorem rl2_len (q : List UInt8) : (rL2 q).length ≤ q.length := Nat.le_trans (sgnL_len _ _) (rl1_len q)
theorem rl3_len (q : List UInt8) : (rL3 q).length ≤ q.length := Nat.le_trans (by unfold rL3; simp) (rl2_len q)
theorem rl4_len (q : List UInt8) : (rL4 q).length ≤ q.length := Nat.le_trans (sgnL_len _ _) (rl3_len q)
theorem rl5_len (q : List UInt8) : (rL5 q).length ≤ q.length := Nat.le_trans (by unfold rL5; simp) (rl4_len q)
theorem fl2_len (q : List UInt8) : (fL2 q).length ≤ q.length := Nat.le_trans (by unfold fL2; simp) (rl1_len q)
theorem two_bd (q : List UInt8) : 0 ≤ valD 0 (digs 2 q) ∧ valD 0 (digs 2 q) ≤ 99 := by
  have r := val_bd (digs_dg 2 q) (digs_le 2 q)
  have e : (10 : Int) ^ 2 = 100 := by decide
  omega

/-- what is known behind the scan. -/
def Seen (q : List UInt8) (h m s : Int) (Q : Bool) (R : List UInt8) : Prop :=
  rOff q = (if Q = false ∧ R = [] then some (h, m, s) else none) ∧ 0 ≤ h ∧ h ≤ 99 ∧ 0 ≤ m ∧ m ≤ 99 ∧ 0 ≤ s ∧ s ≤ 99 ∧ R.length ≤ q.length
theorem seen_four {q : List UInt8} (h : four q) : Seen q (valD 0 (rA q)) (valD 0 (fM q)) 0 (fQ2 q) (fL2 q) :=
  ⟨by unfold rOff; rw [if_pos h], (two_bd q).1, (two_bd q).2, (two_bd (rL1 q)).1, (two_bd (rL1 q)).2, by decide, by decide, fl2_len q⟩
theorem seen_one {q : List UInt8} (h : ¬ four q) (c1 : sgnB 58 (rL1 q) = false) : Seen q (valD 0 (rA q)) 0 0 (rQ1 q) (rL2 q) :=
  ⟨by unfold rOff; rw [if_neg h, if_pos c1], (two_bd q).1, (two_bd q).2, by decide, by decide, by decide, by decide, rl2_len q⟩
theorem seen_two {q : List UInt8} (h : ¬ four q) (c1 : sgnB 58 (rL1 q) = true) (c2 : sgnB 58 (rL3 q) = false) : Seen q (valD 0 (rA q)) (valD 0 (rM q)) 0 (rQ3 q) (rL4 q) :=
  ⟨by unfold rOff; rw [if_neg h, if_neg (by rw [c1]; decide), if_pos c2], (two_bd q).1, (two_bd q).2, (two_bd (rL2 q)).1, (two_bd (rL2 q)).2, by decide, by decide, rl4_len q⟩
theorem seen_three {q : List UInt8} (h : ¬ four q) (c1 : sgnB 58 (rL1 q) = true) (c2 : sgnB 58 (rL3 q) = true) : Seen q (valD 0 (rA q)) (valD 0 (rM q)) (valD 0 (rS q)) (rQ5 q) (rL5 q) :=
  ⟨by unfold rOff; rw [if_neg h, if_neg (by rw [c1]; decide), if_neg (by rw [c2]; decide)], (two_bd q).1, (two_bd q).2, (two_bd (rL2 q)).1, (two_bd (rL2 q)).2, (two_bd (rL4 q)).1, (two_bd (rL4 q)).2, rl5_len q⟩
theorem q3_of {q : List UInt8} (c1 : sgnB 58 (rL1 q) = true) : rQ3 q = (rQ1 q || decide ((rM q).length < 2)) := by unfold rQ3 rQ2; rw [if_pos c1]

theorem seen_ans {q : List UInt8} {h m s : Int} {Q : Bool} {R : List UInt8} (z : Seen q h m s Q R) (neg : Bool) :
    (Q = true → sg neg (oaV (rOff q)) = 0 ∧ oaE (rOff q) = 13) ∧ (R ≠ [] → sg neg (oaV (rOff q)) = 0 ∧ oaE (rOff q) = 13) ∧
    (Q = false → R = [] → ¬ oOk (h, m, s) → sg neg (oaV (rOff q)) = 0 ∧ oaE (rOff q) = 10) ∧ (Q = false → R = [] → oOk (h, m, s) → sg neg (oaV (rOff q)) = sg neg (h * 3600 + m * 60 + s) ∧ oaE (rOff q) = 0) := by
  rw [z.1]
  refine ⟨fun h1 => ?_, fun h1 => ?_, fun h1 h2 h3 => ?_, fun h1 h2 h3 => ?_⟩
  · rw [if_neg (fun k => by rw [h1] at k; exact absurd k.1 (by decide))]; exact ⟨sg_zero _, rfl⟩
  · rw [if_neg (fun k => h1 k.2)]; exact ⟨sg_zero _, rfl⟩
  · rw [if_pos ⟨h1, h2⟩]
    refine ⟨?_, if_neg h3⟩
    show sg neg (oV (h, m, s)) = 0
    unfold oV; rw [if_neg h3]; exact sg_zero _
  · rw [if_pos ⟨h1, h2⟩]
    refine ⟨?_, if_pos h3⟩
    show sg neg (oV (h, m, s)) = _
    unfold oV; rw [if_pos h3]

set_option maxRecDepth 100000 in
set_option maxHeartbeats 16000000 in
theorem eroff_neg (q : List UInt8) (hl : q.length ≤ 140737488351231) (w : World) :
    Calls Tryd.prog 16 #[.string ⟨(45 :: q).toArray⟩] w fun e w' => e = .returned (.tuple #[.int .i64 (sg true (oaV (rOff q))), .int .i64 (oaE (rOff q))]) ∧ Below w.heap.size w w' := by
  have hlq := Nat.le_trans hl (show 140737488351231 ≤ 140737488351232 by decide)
  have N : Hid (∀ (W : World) (x : List UInt8) (b : Bool) (le : Nat), le ≤ 6 → x.length ≤ q.length → SBox W w.heap.size x b → Calls Tryd.prog 37 #[.pointer (some ⟨w.heap.size, 0, none⟩), .int .i64 (le : Int), .int .i64 2] W fun e w' => e = .returned (.int .i64 (valD 0 (digs 2 x))) ∧ SBox w' w.heap.size (x.drop (digs 2 x).length) (b || decide ((digs 2 x).length < le)) ∧ Below w.heap.size W w') := fun W x b le hle hx S => num_any w.heap.size x b le 2 (by decide) hle W S (by omega)
  have G : Hid (∀ (W : World) (x : List UInt8) (b : Bool), x.length ≤ q.length → SBox W w.heap.size x b → Calls Tryd.prog 38 #[.pointer (some ⟨w.heap.size, 0, none⟩), .int .u8 58] W fun e w' => e = .returned (.bool (sgnB 58 x)) ∧ SBox w' w.heap.size (sgnL 58 x) b ∧ Below w.heap.size W w') := fun W x b hx S => sign_any w.heap.size x b 58 W S (by omega)
  have G1 : Hid (∀ W : World, SBox W w.heap.size (45 :: q) false → Calls Tryd.prog 38 #[.pointer (some ⟨w.heap.size, 0, none⟩), .int .u8 45] W fun e w' => e = .returned (.bool true) ∧ SBox w' w.heap.size (q) false ∧ Below w.heap.size W w') := fun W S => sign_any w.heap.size (45 :: q) false 45 W S (by simp; omega)
  obtain ⟨s, hs⟩ : ∃ s : ByteArray, s = ⟨(45 :: q).toArray⟩ := ⟨_, rfl⟩
  rw [← hs]
  have S0 : Hid (SBox (w.alloc (.cells #[.string s, .bool false] 65)) w.heap.size (45 :: q) false) := SBox.new w _ s hs _
  have B0 : Hid (Below w.heap.size w (w.alloc (.cells #[.string s, .bool false] 65))) := (Below.refl _ _).alloc (Nat.le_refl _) _
  clear hs
  obtain ⟨V, hV⟩ : ∃ V, V = sg true (oaV (rOff q)) := ⟨_, rfl⟩
  obtain ⟨E, hE⟩ : ∃ E, E = oaE (rOff q) := ⟨_, rfl⟩
  rw [← hV, ← hE]
  have HV : Hid (V = sg true (oaV (rOff q)) ∧ E = oaE (rOff q)) := ⟨hV, hE⟩
  clear hV hE
  go_enter Tryd.func16, Tryd.ntmps16
  go_wp2_with fail
  refine (G1.out _ S0.out).mono ?_
  rintro e w1 ⟨rfl, S1, b1⟩
  have B1 : Hid (Below w.heap.size w w1) := B0.out.trans b1
  have S1' : Hid (SBox w1 w.heap.size (q) false) := S1
  clear b1 S1 B0 S0
  go_upto_region 8 with fail
  go_cut [43] (fun v W => ∃ b : Bool, v = .bool b ∧ Hid (b = decide (four q)) ∧ W = w1)
  case first =>
    obtain ⟨z1, z2, z3, z4, z5⟩ := S1'.out
    obtain ⟨t, ht⟩ : ∃ t : ByteArray, t = ⟨q.toArray⟩ := ⟨_, rfl⟩
    rw [← ht] at z2
    have tz : t.size = q.length := by rw [ht]; show q.toArray.size = _; simp
    by_cases h4 : q.length = 4
    · have h4' : ((q.length : Int) == 4) = true := by rw [h4]; rfl
      obtain ⟨c0, c1, c2, c3, rfl⟩ : ∃ c0 c1 c2 c3, q = [c0, c1, c2, c3] := by
        match q, h4 with
        | [c0, c1, c2, c3], _ => exact ⟨c0, c1, c2, c3, rfl⟩
      have i1 : ∀ w0 : World, (Instr.index 9 (.string t) (.int .i64 1)).run Tryd.prog w0 = .ok (.int .u8 (c1.toNat : Int)) w0 := ix_of t _ 1 c1 ht rfl
      have i2 : ∀ w0 : World, (Instr.index 9 (.string t) (.int .i64 2)).run Tryd.prog w0 = .ok (.int .u8 (c2.toNat : Int)) w0 := ix_of t _ 2 c2 ht rfl
      have tz' : t.size = 4 := tz
      clear tz h4 h4' ht
      by_cases e1 : c1 = 58
      · have hf : decide (four [c0, c1, c2, c3]) = false := decide_eq_false (fun k => k.2.1 (by rw [e1]; rfl))
        have j1 : (((c1.toNat : Int)) != 58) = false := by rw [e1]; rfl
        generalize (c1.toNat : Int) = y1 at *
        generalize (c2.toNat : Int) = y2 at *
        go_wp2_with fail
        go_meet
        case rel => exact ⟨_, rfl, hf.symm, rfl⟩
      · have n1 : (((c1.toNat : Int)) != 58) = true := bne_iff_ne.2 (fun k => e1 (m58 k))
        by_cases e2 : c2 = 58
        · have hf : decide (four [c0, c1, c2, c3]) = false := decide_eq_false (fun k => k.2.2 (by rw [e2]; rfl))
          have j1 : (((c2.toNat : Int)) != 58) = false := by rw [e2]; rfl
          generalize (c1.toNat : Int) = y1 at *
          generalize (c2.toNat : Int) = y2 at *
          go_wp2_with fail
          go_meet
          case rel => exact ⟨_, rfl, hf.symm, rfl⟩
        · have n2 : (((c2.toNat : Int)) != 58) = true := bne_iff_ne.2 (fun k => e2 (m58 k))
          have hf : decide (four [c0, c1, c2, c3]) = true := decide_eq_true ⟨rfl, fun k => e1 (Option.some.inj k), fun k => e2 (Option.some.inj k)⟩
          generalize (c1.toNat : Int) = y1 at *
          generalize (c2.toNat : Int) = y2 at *
          go_wp2_with fail
          go_meet
          case rel => exact ⟨_, rfl, hf.symm, rfl⟩
    · have hf : decide (four q) = false := decide_eq_false (fun k => h4 k.1)
      have h4' : ((q.length : Int) == 4) = false := beq_eq_false_iff_ne.2 (by omega)
      clear h4
      go_wp2_with fail
      go_meet
      case rel => exact ⟨_, rfl, hf.symm, rfl⟩
  case rest =>
    obtain ⟨bf, rfl, HBF, rfl⟩ := hcut
    go_upto_if 43 with fail
    go_cut [6, 7, 8] (fun v5 v6 v7 W => ∃ (h m sc : Int) (Q : Bool) (R : List UInt8), v5 = .int .i64 h ∧ v6 = .int .i64 m ∧ v7 = .int .i64 sc ∧ SBox W w.heap.size R Q ∧ Below w.heap.size w W ∧ Seen q h m sc Q R)
    case first =>
      cases bf
      rotate_left
      · have hf : four q := of_decide_eq_true HBF.out.symm
        have Z := seen_four hf
        have HZ : Hid (Seen q (valD 0 (rA q)) (valD 0 (fM q)) 0 (fQ2 q) (fL2 q)) := Z
        clear Z hf
        go_wp2_with fail
        refine (N.out _ q false 2 (by decide) (Nat.le_refl _) S1'.out).mono ?_
        rintro e v1 ⟨rfl, s1, b1⟩
        have C1 : Hid (Below w.heap.size w v1) := B1.out.trans b1
        have D1 : Hid (SBox v1 w.heap.size (rL1 q) (fQ1 q)) := s1
        clear b1 s1
        go_wp2_with fail
        refine (N.out _ (rL1 q) (fQ1 q) 2 (by decide) (rl1_len q) D1.out).mono ?_
        rintro e v2 ⟨rfl, s2, b2⟩
        have C2 : Hid (Below w.heap.size w v2) := C1.out.trans b2
        have D2 : Hid (SBox v2 w.heap.size (fL2 q) (fQ2 q)) := s2
        clear b2 s2
        go_wp2_with fail
        go_meet
        case rel => exact ⟨_, _, _, _, _, rfl, rfl, rfl, D2.out, C2.out, HZ.out⟩
      · have HF : Hid (¬ four q) := of_decide_eq_false HBF.out.symm
        go_wp2_with fail
        refine (N.out _ q false 1 (by decide) (Nat.le_refl _) S1'.out).mono ?_
        rintro e v1 ⟨rfl, s1, b1⟩
        have C1 : Hid (Below w.heap.size w v1) := B1.out.trans b1
        have D1 : Hid (SBox v1 w.heap.size (rL1 q) (rQ1 q)) := s1
        clear b1 s1
        go_wp2_with fail
        refine (G.out _ (rL1 q) (rQ1 q) (rl1_len q) D1.out).mono ?_
        rintro e v2 ⟨rfl, s2, b2⟩
        have C2 : Hid (Below w.heap.size w v2) := C1.out.trans b2
        have D2 : Hid (SBox v2 w.heap.size (rL2 q) (rQ1 q)) := s2
        clear b2 s2
        cases g1 : sgnB 58 (rL1 q)
        · have HZ : Hid (Seen q (valD 0 (rA q)) 0 0 (rQ1 q) (rL2 q)) := seen_one HF.out g1
          go_wp2_with fail
          go_meet
          case rel => exact ⟨_, _, _, _, _, rfl, rfl, rfl, D2.out, C2.out, HZ.out⟩
        · go_wp2_with fail
          refine (N.out _ (rL2 q) (rQ1 q) 2 (by decide) (rl2_len q) D2.out).mono ?_
          rintro e v3 ⟨rfl, s3, b3⟩
          have C3 : Hid (Below w.heap.size w v3) := C2.out.trans b3
          have D3 : Hid (SBox v3 w.heap.size (rL3 q) (rQ3 q)) := by show SBox _ _ _ _; rw [q3_of g1]; exact s3
          clear b3 s3
          go_wp2_with fail
          refine (G.out _ (rL3 q) (rQ3 q) (rl3_len q) D3.out).mono ?_
          rintro e v4 ⟨rfl, s4, b4⟩
          have C4 : Hid (Below w.heap.size w v4) := C3.out.trans b4
          have D4 : Hid (SBox v4 w.heap.size (rL4 q) (rQ3 q)) := s4
          clear b4 s4
          cases g2 : sgnB 58 (rL3 q)
          · have HZ : Hid (Seen q (valD 0 (rA q)) (valD 0 (rM q)) 0 (rQ3 q) (rL4 q)) := seen_two HF.out g1 g2
            go_wp2_with fail
            go_meet
            case rel => exact ⟨_, _, _, _, _, rfl, rfl, rfl, D4.out, C4.out, HZ.out⟩
          · go_wp2_with fail
            refine (N.out _ (rL4 q) (rQ3 q) 2 (by decide) (rl4_len q) D4.out).mono ?_
            rintro e v5 ⟨rfl, s5, b5⟩
            have C5 : Hid (Below w.heap.size w v5) := C4.out.trans b5
            have D5 : Hid (SBox v5 w.heap.size (rL5 q) (rQ5 q)) := s5
            have HZ : Hid (Seen q (valD 0 (rA q)) (valD 0 (rM q)) (valD 0 (rS q)) (rQ5 q) (rL5 q)) := seen_three HF.out g1 g2
            clear b5 s5
            go_wp2_with fail
            go_meet
            case rel => exact ⟨_, _, _, _, _, rfl, rfl, rfl, D5.out, C5.out, HZ.out⟩
    case rest =>
      obtain ⟨h, m, sc, Q, R, rfl, rfl, rfl, S, hB, Z⟩ := hcut
      have HB : Hid (Below w.heap.size w wc) := hB
      obtain ⟨A1, A2, A3, A4⟩ := seen_ans Z true
      rw [← HV.out.1, ← HV.out.2] at A1 A2 A3 A4
      have HA1 : Hid (Q = true → V = 0 ∧ E = 13) := A1
      have HA2 : Hid (R ≠ [] → V = 0 ∧ E = 13) := A2
      have HA3 : Hid (Q = false → R = [] → ¬ oOk (h, m, sc) → V = 0 ∧ E = 10) := A3
      have HA4 : Hid (Q = false → R = [] → oOk (h, m, sc) → V = sg true (h * 3600 + m * 60 + sc) ∧ E = 0) := A4
      obtain ⟨_, y1, y2, y3, y4, y5, y6, y7⟩ := Z
      obtain ⟨f1, f2, f3, f4, f5⟩ := S
      clear A1 A2 A3 A4 hB B1 S1' N G
      cases Q
      · cases R with
        | cons x r =>
          obtain ⟨e1, e2⟩ := HA2.out (by simp)
          subst e1 e2
          obtain ⟨s4, hs4⟩ : ∃ s4 : ByteArray, s4 = ⟨(x :: r).toArray⟩ := ⟨_, rfl⟩
          rw [← hs4] at f2
          have hsz : s4.size = r.length + 1 := by rw [hs4]; show (x :: r).toArray.size = _; simp
          have hpos : (0 : Int) < (r.length : Int) + 1 := by omega
          clear hs4
          go_wp2
          go_ret2
          exact ⟨rfl, HB.out⟩
        | nil =>
          have f2' : wc.cell? ⟨w.heap.size, 0, none⟩ = some (.string ⟨#[]⟩) := f2
          clear f2
          by_cases k1 : (59 : Int) < m
          · obtain ⟨e1, e2⟩ := HA3.out rfl rfl (fun k => by have := k.1; simp only at this; omega)
            subst e1 e2
            go_wp2
            go_ret2
            exact ⟨rfl, HB.out⟩
          · by_cases k2 : (59 : Int) < sc
            · obtain ⟨e1, e2⟩ := HA3.out rfl rfl (fun k => by have := k.2.1; simp only at this; omega)
              subst e1 e2
              go_wp2
              go_ret2
              exact ⟨rfl, HB.out⟩
            · by_cases k3 : (57599 : Int) < h * 3600 + m * 60 + sc
              · obtain ⟨e1, e2⟩ := HA3.out rfl rfl (fun k => by have := k.2.2; simp only at this; omega)
                subst e1 e2
                go_wp2
                go_ret2
                exact ⟨rfl, HB.out⟩
              · obtain ⟨e1, e2⟩ := HA4.out rfl rfl ⟨by show m ≤ 59; omega, by show sc ≤ 59; omega, by show h * 3600 + m * 60 + sc ≤ 57599; omega⟩
                have e1' : V = -(h * 3600 + m * 60 + sc) := e1
                clear e1
                subst e1' e2
                go_wp2
                go_ret2
                exact ⟨rfl, HB.out⟩
      · obtain ⟨e1, e2⟩ := HA1.out rfl
        subst e1 e2
        go_wp2
        go_ret2
        exact ⟨rfl, HB.out⟩

set_option maxRecDepth 100000 in
set_option maxHeartbeats 16000000 in
theorem eroff_pos (q : List UInt8) (hl : q.length ≤ 140737488351231) (w : World) :
    Calls Tryd.prog 16 #[.string ⟨(43 :: q).toArray⟩] w fun e w' => e = .returned (.tuple #[.int .i64 (sg false (oaV (rOff q))), .int .i64 (oaE (rOff q))]) ∧ Below w.heap.size w w' := by
  have hlq := Nat.le_trans hl (show 140737488351231 ≤ 140737488351232 by decide)
  have N : Hid (∀ (W : World) (x : List UInt8) (b : Bool) (le : Nat), le ≤ 6 → x.length ≤ q.length → SBox W w.heap.size x b → Calls Tryd.prog 37 #[.pointer (some ⟨w.heap.size, 0, none⟩), .int .i64 (le : Int), .int .i64 2] W fun e w' => e = .returned (.int .i64 (valD 0 (digs 2 x))) ∧ SBox w' w.heap.size (x.drop (digs 2 x).length) (b || decide ((digs 2 x).length < le)) ∧ Below w.heap.size W w') := fun W x b le hle hx S => num_any w.heap.size x b le 2 (by decide) hle W S (by omega)
  have G : Hid (∀ (W : World) (x : List UInt8) (b : Bool), x.length ≤ q.length → SBox W w.heap.size x b → Calls Tryd.prog 38 #[.pointer (some ⟨w.heap.size, 0, none⟩), .int .u8 58] W fun e w' => e = .returned (.bool (sgnB 58 x)) ∧ SBox w' w.heap.size (sgnL 58 x) b ∧ Below w.heap.size W w') := fun W x b hx S => sign_any w.heap.size x b 58 W S (by omega)
  have G1 : Hid (∀ W : World, SBox W w.heap.size (43 :: q) false → Calls Tryd.prog 38 #[.pointer (some ⟨w.heap.size, 0, none⟩), .int .u8 45] W fun e w' => e = .returned (.bool false) ∧ SBox w' w.heap.size (43 :: q) false ∧ Below w.heap.size W w') := fun W S => sign_any w.heap.size (43 :: q) false 45 W S (by simp; omega)
  have G2 : Hid (∀ W : World, SBox W w.heap.size (43 :: q) false → Calls Tryd.prog 38 #[.pointer (some ⟨w.heap.size, 0, none⟩), .int .u8 43] W fun e w' => e = .returned (.bool true) ∧ SBox w' w.heap.size q false ∧ Below w.heap.size W w') := fun W S => sign_any w.heap.size (43 :: q) false 43 W S (by simp; omega)
  obtain ⟨s, hs⟩ : ∃ s : ByteArray, s = ⟨(43 :: q).toArray⟩ := ⟨_, rfl⟩
  rw [← hs]
  have S0 : Hid (SBox (w.alloc (.cells #[.string s, .bool false] 65)) w.heap.size (43 :: q) false) := SBox.new w _ s hs _
  have B0 : Hid (Below w.heap.size w (w.alloc (.cells #[.string s, .bool false] 65))) := (Below.refl _ _).alloc (Nat.le_refl _) _
  clear hs
  obtain ⟨V, hV⟩ : ∃ V, V = sg false (oaV (rOff q)) := ⟨_, rfl⟩
  obtain ⟨E, hE⟩ : ∃ E, E = oaE (rOff q) := ⟨_, rfl⟩
  rw [← hV, ← hE]
  have HV : Hid (V = sg false (oaV (rOff q)) ∧ E = oaE (rOff q)) := ⟨hV, hE⟩
  clear hV hE
  go_enter Tryd.func16, Tryd.ntmps16
  go_wp2_with fail
  refine (G1.out _ S0.out).mono ?_
  rintro e w1 ⟨rfl, S1, b1⟩
  have B1 : Hid (Below w.heap.size w w1) := B0.out.trans b1
  have S1' : Hid (SBox w1 w.heap.size (43 :: q) false) := S1
  clear b1 S1 B0 S0
  go_wp2_with fail
  refine (G2.out _ S1'.out).mono ?_
  rintro e w2 ⟨rfl, S2, b2⟩
  have B2 : Hid (Below w.heap.size w w2) := B1.out.trans b2
  have S2' : Hid (SBox w2 w.heap.size q false) := S2
  clear b2 S2 S1' B1
  go_upto_region 8 with fail
  go_cut [43] (fun v W => ∃ b : Bool, v = .bool b ∧ Hid (b = decide (four q)) ∧ W = w2)
  case first =>
    obtain ⟨z1, z2, z3, z4, z5⟩ := S2'.out
    obtain ⟨t, ht⟩ : ∃ t : ByteArray, t = ⟨q.toArray⟩ := ⟨_, rfl⟩
    rw [← ht] at z2
    have tz : t.size = q.length := by rw [ht]; show q.toArray.size = _; simp
    by_cases h4 : q.length = 4
    · have h4' : ((q.length : Int) == 4) = true := by rw [h4]; rfl
      obtain ⟨c0, c1, c2, c3, rfl⟩ : ∃ c0 c1 c2 c3, q = [c0, c1, c2, c3] := by
        match q, h4 with
        | [c0, c1, c2, c3], _ => exact ⟨c0, c1, c2, c3, rfl⟩
      have i1 : ∀ w0 : World, (Instr.index 9 (.string t) (.int .i64 1)).run Tryd.prog w0 = .ok (.int .u8 (c1.toNat : Int)) w0 := ix_of t _ 1 c1 ht rfl
      have i2 : ∀ w0 : World, (Instr.index 9 (.string t) (.int .i64 2)).run Tryd.prog w0 = .ok (.int .u8 (c2.toNat : Int)) w0 := ix_of t _ 2 c2 ht rfl
      have tz' : t.size = 4 := tz
      clear tz h4 h4' ht
      by_cases e1 : c1 = 58
      · have hf : decide (four [c0, c1, c2, c3]) = false := decide_eq_false (fun k => k.2.1 (by rw [e1]; rfl))
        have j1 : (((c1.toNat : Int)) != 58) = false := by rw [e1]; rfl
        generalize (c1.toNat : Int) = y1 at *
        generalize (c2.toNat : Int) = y2 at *
        go_wp2_with fail
        go_meet
        case rel => exact ⟨_, rfl, hf.symm, rfl⟩
      · have n1 : (((c1.toNat : Int)) != 58) = true := bne_iff_ne.2 (fun k => e1 (m58 k))
        by_cases e2 : c2 = 58
        · have hf : decide (four [c0, c1, c2, c3]) = false := decide_eq_false (fun k => k.2.2 (by rw [e2]; rfl))
          have j1 : (((c2.toNat : Int)) != 58) = false := by rw [e2]; rfl
          generalize (c1.toNat : Int) = y1 at *
          generalize (c2.toNat : Int) = y2 at *
          go_wp2_with fail
          go_meet
          case rel => exact ⟨_, rfl, hf.symm, rfl⟩
        · have n2 : (((c2.toNat : Int)) != 58) = true := bne_iff_ne.2 (fun k => e2 (m58 k))
          have hf : decide (four [c0, c1, c2, c3]) = true := decide_eq_true ⟨rfl, fun k => e1 (Option.some.inj k), fun k => e2 (Option.some.inj k)⟩
          generalize (c1.toNat : Int) = y1 at *
          generalize (c2.toNat : Int) = y2 at *
          go_wp2_with fail
          go_meet
          case rel => exact ⟨_, rfl, hf.symm, rfl⟩
    · have hf : decide (four q) = false := decide_eq_false (fun k => h4 k.1)
      have h4' : ((q.length : Int) == 4) = false := beq_eq_false_iff_ne.2 (by omega)
      clear h4
      go_wp2_with fail
      go_meet
      case rel => exact ⟨_, rfl, hf.symm, rfl⟩
  case rest =>
    obtain ⟨bf, rfl, HBF, rfl⟩ := hcut
    go_upto_if 43 with fail
    go_cut [6, 7, 8] (fun v5 v6 v7 W => ∃ (h m sc : Int) (Q : Bool) (R : List UInt8), v5 = .int .i64 h ∧ v6 = .int .i64 m ∧ v7 = .int .i64 sc ∧ SBox W w.heap.size R Q ∧ Below w.heap.size w W ∧ Seen q h m sc Q R)
    case first =>
      cases bf
      rotate_left
      · have hf : four q := of_decide_eq_true HBF.out.symm
        have Z := seen_four hf
        have HZ : Hid (Seen q (valD 0 (rA q)) (valD 0 (fM q)) 0 (fQ2 q) (fL2 q)) := Z
        clear Z hf
        go_wp2_with fail
        refine (N.out _ q false 2 (by decide) (Nat.le_refl _) S2'.out).mono ?_
        rintro e v1 ⟨rfl, s1, b1⟩
        have C1 : Hid (Below w.heap.size w v1) := B2.out.trans b1
        have D1 : Hid (SBox v1 w.heap.size (rL1 q) (fQ1 q)) := s1
        clear b1 s1
        go_wp2_with fail
        refine (N.out _ (rL1 q) (fQ1 q) 2 (by decide) (rl1_len q) D1.out).mono ?_
        rintro e v2 ⟨rfl, s2, b2⟩
        have C2 : Hid (Below w.heap.size w v2) := C1.out.trans b2
        have D2 : Hid (SBox v2 w.heap.size (fL2 q) (fQ2 q)) := s2
        clear b2 s2
        go_wp2_with fail
        go_meet
        case rel => exact ⟨_, _, _, _, _, rfl, rfl, rfl, D2.out, C2.out, HZ.out⟩
      · have HF : Hid (¬ four q) := of_decide_eq_false HBF.out.symm
        go_wp2_with fail
        refine (N.out _ q false 1 (by decide) (Nat.le_refl _) S2'.out).mono ?_
        rintro e v1 ⟨rfl, s1, b1⟩
        have C1 : Hid (Below w.heap.size w v1) := B2.out.trans b1
        have D1 : Hid (SBox v1 w.heap.size (rL1 q) (rQ1 q)) := s1
        clear b1 s1
        go_wp2_with fail
        refine (G.out _ (rL1 q) (rQ1 q) (rl1_len q) D1.out).mono ?_
        rintro e v2 ⟨rfl, s2, b2⟩
        have C2 : Hid (Below w.heap.size w v2) := C1.out.trans b2
        have D2 : Hid (SBox v2 w.heap.size (rL2 q) (rQ1 q)) := s2
        clear b2 s2
        cases g1 : sgnB 58 (rL1 q)
        · have HZ : Hid (Seen q (valD 0 (rA q)) 0 0 (rQ1 q) (rL2 q)) := seen_one HF.out g1
          go_wp2_with fail
          go_meet
          case rel => exact ⟨_, _, _, _, _, rfl, rfl, rfl, D2.out, C2.out, HZ.out⟩
        · go_wp2_with fail
          refine (N.out _ (rL2 q) (rQ1 q) 2 (by decide) (rl2_len q) D2.out).mono ?_
          rintro e v3 ⟨rfl, s3, b3⟩
          have C3 : Hid (Below w.heap.size w v3) := C2.out.trans b3
          have D3 : Hid (SBox v3 w.heap.size (rL3 q) (rQ3 q)) := by show SBox _ _ _ _; rw [q3_of g1]; exact s3
          clear b3 s3
          go_wp2_with fail
          refine (G.out _ (rL3 q) (rQ3 q) (rl3_len q) D3.out).mono ?_
          rintro e v4 ⟨rfl, s4, b4⟩
          have C4 : Hid (Below w.heap.size w v4) := C3.out.trans b4
          have D4 : Hid (SBox v4 w.heap.size (rL4 q) (rQ3 q)) := s4
          clear b4 s4
          cases g2 : sgnB 58 (rL3 q)
          · have HZ : Hid (Seen q (valD 0 (rA q)) (valD 0 (rM q)) 0 (rQ3 q) (rL4 q)) := seen_two HF.out g1 g2
            go_wp2_with fail
            go_meet
            case rel => exact ⟨_, _, _, _, _, rfl, rfl, rfl, D4.out, C4.out, HZ.out⟩
          · go_wp2_with fail
            refine (N.out _ (rL4 q) (rQ3 q) 2 (by decide) (rl4_len q) D4.out).mono ?_
            rintro e v5 ⟨rfl, s5, b5⟩
            have C5 : Hid (Below w.heap.size w v5) := C4.out.trans b5
            have D5 : Hid (SBox v5 w.heap.size (rL5 q) (rQ5 q)) := s5
            have HZ : Hid (Seen q (valD 0 (rA q)) (valD 0 (rM q)) (valD 0 (rS q)) (rQ5 q) (rL5 q)) := seen_three HF.out g1 g2
            clear b5 s5
            go_wp2_with fail
            go_meet
            case rel => exact ⟨_, _, _, _, _, rfl, rfl, rfl, D5.out, C5.out, HZ.out⟩
    case rest =>
      obtain ⟨h, m, sc, Q, R, rfl, rfl, rfl, S, hB, Z⟩ := hcut
      have HB : Hid (Below w.heap.size w wc) := hB
      obtain ⟨A1, A2, A3, A4⟩ := seen_ans Z false
      rw [← HV.out.1, ← HV.out.2] at A1 A2 A3 A4
      have HA1 : Hid (Q = true → V = 0 ∧ E = 13) := A1
      have HA2 : Hid (R ≠ [] → V = 0 ∧ E = 13) := A2
      have HA3 : Hid (Q = false → R = [] → ¬ oOk (h, m, sc) → V = 0 ∧ E = 10) := A3
      have HA4 : Hid (Q = false → R = [] → oOk (h, m, sc) → V = sg false (h * 3600 + m * 60 + sc) ∧ E = 0) := A4
      obtain ⟨_, y1, y2, y3, y4, y5, y6, y7⟩ := Z
      obtain ⟨f1, f2, f3, f4, f5⟩ := S
      clear A1 A2 A3 A4 hB B2 S2' N G
      cases Q
      · cases R with
        | cons x r =>
          obtain ⟨e1, e2⟩ := HA2.out (by simp)
          subst e1 e2
          obtain ⟨s4, hs4⟩ : ∃ s4 : ByteArray, s4 = ⟨(x :: r).toArray⟩ := ⟨_, rfl⟩
          rw [← hs4] at f2
          have hsz : s4.size = r.length + 1 := by rw [hs4]; show (x :: r).toArray.size = _; simp
          have hpos : (0 : Int) < (r.length : Int) + 1 := by omega
          clear hs4
          go_wp2
          go_ret2
          exact ⟨rfl, HB.out⟩
        | nil =>
          have f2' : wc.cell? ⟨w.heap.size, 0, none⟩ = some (.string ⟨#[]⟩) := f2
          clear f2
          by_cases k1 : (59 : Int) < m
          · obtain ⟨e1, e2⟩ := HA3.out rfl rfl (fun k => by have := k.1; simp only at this; omega)
            subst e1 e2
            go_wp2
            go_ret2
            exact ⟨rfl, HB.out⟩
          · by_cases k2 : (59 : Int) < sc
            · obtain ⟨e1, e2⟩ := HA3.out rfl rfl (fun k => by have := k.2.1; simp only at this; omega)
              subst e1 e2
              go_wp2
              go_ret2
              exact ⟨rfl, HB.out⟩
            · by_cases k3 : (57599 : Int) < h * 3600 + m * 60 + sc
              · obtain ⟨e1, e2⟩ := HA3.out rfl rfl (fun k => by have := k.2.2; simp only at this; omega)
                subst e1 e2
                go_wp2
                go_ret2
                exact ⟨rfl, HB.out⟩
              · obtain ⟨e1, e2⟩ := HA4.out rfl rfl ⟨by show m ≤ 59; omega, by show sc ≤ 59; omega, by show h * 3600 + m * 60 + sc ≤ 57599; omega⟩
                have e1' : V = h * 3600 + m * 60 + sc := e1
                clear e1
                subst e1' e2
                go_wp2
                go_ret2
                exact ⟨rfl, HB.out⟩
      · obtain ⟨e1, e2⟩ := HA1.out rfl
        subst e1 e2
        go_wp2
        go_ret2
        exact ⟨rfl, HB.out⟩

set_option maxRecDepth 100000 in
set_option maxHeartbeats 4000000 in
theorem eroff_no (l : List UInt8) (hl : l.length ≤ 140737488351232) (h1 : sgnB 45 l = false) (h2 : sgnB 43 l = false) (w : World) :
    Calls Tryd.prog 16 #[.string ⟨l.toArray⟩] w fun e w' => e = .returned (.tuple #[.int .i64 0, .int .i64 13]) ∧ Below w.heap.size w w' := by
  have G1 : Hid (∀ W : World, SBox W w.heap.size l false → Calls Tryd.prog 38 #[.pointer (some ⟨w.heap.size, 0, none⟩), .int .u8 45] W fun e w' => e = .returned (.bool false) ∧ SBox w' w.heap.size l false ∧ Below w.heap.size W w') := fun W S => by
    have := sign_any w.heap.size l false 45 W S hl
    rw [h1, sgn_no h1] at this
    exact this
  have G2 : Hid (∀ W : World, SBox W w.heap.size l false → Calls Tryd.prog 38 #[.pointer (some ⟨w.heap.size, 0, none⟩), .int .u8 43] W fun e w' => e = .returned (.bool false) ∧ SBox w' w.heap.size l false ∧ Below w.heap.size W w') := fun W S => by
    have := sign_any w.heap.size l false 43 W S hl
    rw [h2, sgn_no h2] at this
    exact this
  obtain ⟨s, hs⟩ : ∃ s : ByteArray, s = ⟨l.toArray⟩ := ⟨_, rfl⟩
  rw [← hs]
  have S0 : Hid (SBox (w.alloc (.cells #[.string s, .bool false] 65)) w.heap.size l false) := SBox.new w _ s hs _
  have B0 : Hid (Below w.heap.size w (w.alloc (.cells #[.string s, .bool false] 65))) := (Below.refl _ _).alloc (Nat.le_refl _) _
  clear hs h1 h2 hl
  go_enter Tryd.func16, Tryd.ntmps16
  go_wp2_with fail
  refine (G1.out _ S0.out).mono ?_
  rintro e w1 ⟨rfl, S1, b1⟩
  have B1 : Hid (Below w.heap.size w w1) := B0.out.trans b1
  have S1' : Hid (SBox w1 w.heap.size l false) := S1
  clear b1 S1 B0 S0
  go_wp2_with fail
  refine (G2.out _ S1'.out).mono ?_
  rintro e w2 ⟨rfl, S2, b2⟩
  have B2 : Hid (Below w.heap.size w w2) := B1.out.trans b2
  clear b2 S2 S1' B1
  go_wp2
  go_ret2
  exact ⟨rfl, B2.out⟩

end Go.Proofs.YtdkodkkbggdpbaaDoor
