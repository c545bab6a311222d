/- Contract: src.readRule, all nine fields right. -/
import Derived.Test.YtgnfkkcagbbhmaaGreatDoorSrHq
namespace Go.Proofs.YtgnfkkcagbbhmaaGreatDoor
open Go.RowKit Lin Sr
set_option linter.unusedVariables false

theorem rule_one (f0 : ByteArray) (y t mo oa ob oc ta tz U : Int) (lt : ByteArray) : (#[.string f0, .int .i64 y, .int .i64 t, .int .i64 mo, .int .i64 oa, .int .i64 ob, .int .i64 oc, .int .i64 ta, .int .u8 tz, .int .i64 U, .string lt] : Array Value).all (·.oneCell') = true :=
  all_oneCell_toArray (cs := [.string f0, .int .i64 y, .int .i64 t, .int .i64 mo, .int .i64 oa, .int .i64 ob, .int .i64 oc, .int .i64 ta, .int .u8 tz, .int .i64 U, .string lt]) (by intro v hv; simp at hv; rcases hv with rfl | rfl | rfl | rfl | rfl | rfl | rfl | rfl | rfl | rfl | rfl <;> rfl)
theorem ret_rule {f0 : ByteArray} {y a b mo oa ob oc ta tz U : Int} {lt : ByteArray} {p q : Bool} (h : a = b) (h2 : p = q) : Ending.returned (.tuple #[.agg #[.string f0, .int .i64 y, .int .i64 a, .int .i64 mo, .int .i64 oa, .int .i64 ob, .int .i64 oc, .int .i64 ta, .int .u8 tz, .int .i64 U, .string lt], .bool p]) = .returned (.tuple #[.agg #[.string f0, .int .i64 y, .int .i64 b, .int .i64 mo, .int .i64 oa, .int .i64 ob, .int .i64 oc, .int .i64 ta, .int .u8 tz, .int .i64 U, .string lt], .bool q]) := by rw [h, h2]
theorem row_of_own {W : World} {base : Nat} {v : Value} {L : List Value} (n : Nat) (h : W.ownsRow base 20 1 v L.length L) (hn : L.length = n) (h0 : 0 < n) : ∃ b c, v = .slice (some ⟨b, 0, none⟩) n c ∧ b < W.heap.size ∧ ∀ j x, L[j]? = some x → W.cell? ⟨b, j, none⟩ = some x := by
  rw [hn] at h
  rcases h.2 with ⟨_, h1⟩ | ⟨g, cap, cur, e, _, hg, _⟩
  · omega
  · subst e
    refine ⟨g, cap, rfl, (Array.getElem?_eq_some_iff.1 hg).1, fun j x hj => ?_⟩
    have hk : j < L.length := (List.getElem?_eq_some_iff.1 hj).1
    exact (h.cellAt _ (by omega)).trans hj
theorem Bx.put {W : World} {b : Nat} {l : List Value} (h : Bx W b l) (i : Nat) (v : Value) (hi : i < l.length) : Bx (W.setCell ⟨b, i, none⟩ v) b (l.set i v) :=
  ⟨by simpa using h.1, fun j x e => by
    by_cases hj : i = j
    · subst hj
      rw [List.getElem?_set_self hi] at e
      cases e
      exact ⟨World.cell?_setCell_same _ _ _ (h.2 i l[i] (List.getElem?_eq_getElem hi)).1, by rw [World.frozen?_setCell]; exact (h.2 i l[i] (List.getElem?_eq_getElem hi)).2⟩
    · rw [List.getElem?_set_ne hj] at e
      exact ⟨(World.cell?_setCell_other _ _ _ _ (fun q => hj (by cases q; rfl))).trans (h.2 j x e).1, by rw [World.frozen?_setCell]; exact (h.2 j x e).2⟩⟩
/-- what stands while the rule is handed over. -/
def R7 (w : World) (b : Nat) (L : List Value) (W : World) : Prop := Below w.heap.size w W ∧ Bx W b L ∧ ∃ l, l.length = 11 ∧ Bx W w.heap.size l
theorem R7.drew {w W : World} {b : Nat} {L : List Value} (h : R7 w b L W) : R7 w b L W.drew := ⟨Below.drew h.1, h.2.1, h.2.2⟩

set_option maxRecDepth 100000 in
set_option maxHeartbeats 8000000 in
theorem readRule_yes (rs : List Rdr) (f0 f1 f2 f3 f4 f5 f6 f7 f8 : ByteArray) (y t mo oa ob oc ta tz U : Int) (lt : ByteArray)
    (hrs : Hid (rs = ruleRs f0 f1 f2 f3 f4 f5 f6 f7 f8 y t mo oa ob oc ta tz U lt true true true true true true true true true)) (HK : Hid (∀ r ∈ rs, r.ok))
    (g o c : Nat) (w : World) (hg : g < w.heap.size) (hc : 9 ≤ c) (HF : Hid (∀ j r, rs[j]? = some r → w.cell? ⟨g, o + j, none⟩ = some (.string r.f))) :
    Calls Tryz.prog 80 #[.slice (some ⟨g, o, none⟩) 9 c] w fun e w' => e = .returned (.tuple #[.agg #[.string f0, .int .i64 y, .int .i64 (if t = 0 then y else t), .int .i64 mo, .int .i64 oa, .int .i64 ob, .int .i64 oc, .int .i64 ta, .int .u8 tz, .int .i64 U, .string lt], .bool (decide (y ≤ if t = 0 then y else t))]) ∧ Below w.heap.size w w' := by
  have HS : Hid (∀ w : World, Calls Tryz.prog 112 #[] w fun e w' => e = .returned (.iface 212 (.agg #[.int .i64 0, .int .i64 7200])) ∧ Below w.heap.size w w') := saveR
  go_enter Tryz.func80, Tryz.ntmps80
  go_wp2_with fail
  refine (HS.out _).mono ?_
  rintro e w2 ⟨rfl, hb2⟩
  go_wp2_with fail
  have X2 : Hid (Bx w2 w.heap.size zRule) := (Bx.new w zRule 85).below hb2
  have B2 : Hid (Below w.heap.size w w2) := NBs hb2 ((Below.refl _ _).alloc (Nat.le_refl _) _)
  clear hb2
  have hlen : rs.length = 9 := by rw [hrs.out]; rfl
  have hg2 : g < w2.heap.size := Nat.lt_of_lt_of_le hg B2.out.size
  refine (readAll_any rs 9 hlen g o w2.heap.size 0 c 9 _ HK (by simp; omega) (by simp) (by decide) (fun j r hj => ?_) (ruleRs_row hrs.out w2) hc (Nat.le_refl _)).mono ?_
  · exact ((Below.refl _ w2).alloc (Nat.le_refl _) _ |>.cell hg2).trans ((B2.out.cell hg).trans (HF.out j r hj))
  rintro e w3 ⟨hb3, hR⟩
  have X3 : Hid (Bx w3 w.heap.size zRule) := (X2.out.alloc _).below hb3
  have B3 : Hid (Below w.heap.size w w3) := (B2.out.alloc B2.out.size _).trans (hb3.mono (B2.out.alloc B2.out.size _).size)
  have hL : rdL rs [] = some [.iface 9 (.string f0), .iface 2 (.int .i64 y), .iface 2 (.int .i64 t), .iface 9 (.string f3), .iface 2 (.int .i64 mo), .iface 82 (.agg #[.int .i64 oa, .int .i64 ob, .int .i64 oc]), .iface 83 (.agg #[.int .i64 ta, .int .u8 tz]), .iface 2 (.int .i64 U), .iface 9 (.string lt)] := by rw [hrs.out]; rfl
  rw [hL] at hR
  clear hL
  obtain ⟨v, hv, hO⟩ := hR
  subst hv
  obtain ⟨gb, cb, rfl, hgb, hcs⟩ := row_of_own 9 hO rfl (by decide)
  have r0 := hcs 0 _ rfl
  have r1 := hcs 1 _ rfl
  have r2 := hcs 2 _ rfl
  have r3 := hcs 3 _ rfl
  have r4 := hcs 4 _ rfl
  have r5 := hcs 5 _ rfl
  have r6 := hcs 6 _ rfl
  have r7 := hcs 7 _ rfl
  have r8 := hcs 8 _ rfl
  have s0 := ta_str f0
  have s1 := ta_int y
  have s2 := ta_int t
  have s3 := ta_int mo
  have s4 := ta_on oa ob oc
  have s5 := ta_at ta tz
  have s6 := ta_int U
  have s7 := ta_str lt
  have BR : Hid (BelR w3 w3) := Below.refl _ _
  clear hcs hO hb3 X2 B2 HK HF hrs HS hlen
  go_wp2_with fail
  refine wp_region_held_drew (S := BelR w3) (by kernel_rfl) BR.out.drew (fun hHeld => ?_)
  refine gen_any (BelR w3) hHeld ?_
  clear hHeld BR
  rintro w4 hHeld
  refine wpAnyH_take (i := 0) (v := ?_) (oi := { dst := some 33, op := _, type := _, pos := _, after := _, guard := none }) rfl (by kernel_rfl) (by kernel_rfl) (by kernel_rfl) (fun _ _ _ h => h) (Or.inl ⟨by kernel_rfl, ?_⟩) (by assumption) ?_
  case refine_2 => (intro w9 hSw; clear hSw; go_simp; try with_reducible rfl)
  simp only [Act.put, List.setIfInBounds_toArray, List.set_cons_zero, List.set_cons_succ]
  refine wpAnyH_take (i := 1) (v := ?_) (oi := { dst := some 34, op := _, type := _, pos := _, after := _, guard := none }) rfl (by kernel_rfl) (by kernel_rfl) (by kernel_rfl) (fun _ _ _ h => h) (Or.inl ⟨by kernel_rfl, ?_⟩) (by assumption) ?_
  case refine_2 => (intro w9 hSw; clear hSw; go_simp; try with_reducible rfl)
  simp only [Act.put, List.setIfInBounds_toArray, List.set_cons_zero, List.set_cons_succ]
  refine wpAnyH_take (i := 2) (v := ?_) (oi := { dst := some 35, op := _, type := _, pos := _, after := _, guard := none }) rfl (by kernel_rfl) (by kernel_rfl) (by kernel_rfl) (fun _ _ _ h => h) (Or.inl ⟨by kernel_rfl, ?_⟩) (by assumption) ?_
  case refine_2 => (intro w9 hSw; have q0 := (Below.cell (p := ⟨gb, 0, none⟩) hSw hgb).trans r0; have q1 := (Below.cell (p := ⟨gb, 1, none⟩) hSw hgb).trans r1; have q2 := (Below.cell (p := ⟨gb, 2, none⟩) hSw hgb).trans r2; have q3 := (Below.cell (p := ⟨gb, 3, none⟩) hSw hgb).trans r3; have q4 := (Below.cell (p := ⟨gb, 4, none⟩) hSw hgb).trans r4; have q5 := (Below.cell (p := ⟨gb, 5, none⟩) hSw hgb).trans r5; have q6 := (Below.cell (p := ⟨gb, 6, none⟩) hSw hgb).trans r6; have q7 := (Below.cell (p := ⟨gb, 7, none⟩) hSw hgb).trans r7; have q8 := (Below.cell (p := ⟨gb, 8, none⟩) hSw hgb).trans r8; clear hSw; go_simp; try with_reducible rfl)
  simp only [Act.put, List.setIfInBounds_toArray, List.set_cons_zero, List.set_cons_succ]
  refine wpAnyH_take (i := 3) (v := ?_) (oi := { dst := some 36, op := _, type := _, pos := _, after := _, guard := none }) rfl (by kernel_rfl) (by kernel_rfl) (by kernel_rfl) (fun _ _ _ h => h) (Or.inl ⟨by kernel_rfl, ?_⟩) (by assumption) ?_
  case refine_2 => (intro w9 hSw; clear hSw; go_simp; try with_reducible rfl)
  simp only [Act.put, List.setIfInBounds_toArray, List.set_cons_zero, List.set_cons_succ]
  refine wpAnyH_take (i := 4) (v := ?_) (oi := { dst := some 37, op := _, type := _, pos := _, after := _, guard := none }) rfl (by kernel_rfl) (by kernel_rfl) (by kernel_rfl) (fun _ _ _ h => h) (Or.inl ⟨by kernel_rfl, ?_⟩) (by assumption) ?_
  case refine_2 => (intro w9 hSw; clear hSw; go_simp; try with_reducible rfl)
  simp only [Act.put, List.setIfInBounds_toArray, List.set_cons_zero, List.set_cons_succ]
  refine wpAnyH_take (i := 5) (v := ?_) (oi := { dst := some 38, op := _, type := _, pos := _, after := _, guard := none }) rfl (by kernel_rfl) (by kernel_rfl) (by kernel_rfl) (fun _ _ _ h => h) (Or.inl ⟨by kernel_rfl, ?_⟩) (by assumption) ?_
  case refine_2 => (intro w9 hSw; clear hSw; go_simp; try with_reducible rfl)
  simp only [Act.put, List.setIfInBounds_toArray, List.set_cons_zero, List.set_cons_succ]
  refine wpAnyH_take (i := 6) (v := ?_) (oi := { dst := some 39, op := _, type := _, pos := _, after := _, guard := none }) rfl (by kernel_rfl) (by kernel_rfl) (by kernel_rfl) (fun _ _ _ h => h) (Or.inl ⟨by kernel_rfl, ?_⟩) (by assumption) ?_
  case refine_2 => (intro w9 hSw; have q0 := (Below.cell (p := ⟨gb, 0, none⟩) hSw hgb).trans r0; have q1 := (Below.cell (p := ⟨gb, 1, none⟩) hSw hgb).trans r1; have q2 := (Below.cell (p := ⟨gb, 2, none⟩) hSw hgb).trans r2; have q3 := (Below.cell (p := ⟨gb, 3, none⟩) hSw hgb).trans r3; have q4 := (Below.cell (p := ⟨gb, 4, none⟩) hSw hgb).trans r4; have q5 := (Below.cell (p := ⟨gb, 5, none⟩) hSw hgb).trans r5; have q6 := (Below.cell (p := ⟨gb, 6, none⟩) hSw hgb).trans r6; have q7 := (Below.cell (p := ⟨gb, 7, none⟩) hSw hgb).trans r7; have q8 := (Below.cell (p := ⟨gb, 8, none⟩) hSw hgb).trans r8; clear hSw; go_simp; try with_reducible rfl)
  simp only [Act.put, List.setIfInBounds_toArray, List.set_cons_zero, List.set_cons_succ]
  refine wpAnyH_take (i := 7) (v := ?_) (oi := { dst := some 40, op := _, type := _, pos := _, after := _, guard := none }) rfl (by kernel_rfl) (by kernel_rfl) (by kernel_rfl) (fun _ _ _ h => h) (Or.inl ⟨by kernel_rfl, ?_⟩) (by assumption) ?_
  case refine_2 => (intro w9 hSw; clear hSw; go_simp; try with_reducible rfl)
  simp only [Act.put, List.setIfInBounds_toArray, List.set_cons_zero, List.set_cons_succ]
  refine wpAnyH_take (i := 8) (v := ?_) (oi := { dst := some 41, op := _, type := _, pos := _, after := _, guard := none }) rfl (by kernel_rfl) (by kernel_rfl) (by kernel_rfl) (fun _ _ _ h => h) (Or.inl ⟨by kernel_rfl, ?_⟩) (by assumption) ?_
  case refine_2 => (intro w9 hSw; clear hSw; go_simp; try with_reducible rfl)
  simp only [Act.put, List.setIfInBounds_toArray, List.set_cons_zero, List.set_cons_succ]
  refine wpAnyH_take (i := 9) (v := ?_) (oi := { dst := some 42, op := _, type := _, pos := _, after := _, guard := none }) rfl (by kernel_rfl) (by kernel_rfl) (by kernel_rfl) (fun _ _ _ h => h) (Or.inl ⟨by kernel_rfl, ?_⟩) (by assumption) ?_
  case refine_2 => (intro w9 hSw; clear hSw; go_simp; try with_reducible rfl)
  simp only [Act.put, List.setIfInBounds_toArray, List.set_cons_zero, List.set_cons_succ]
  refine wpAnyH_take (i := 10) (v := ?_) (oi := { dst := some 43, op := _, type := _, pos := _, after := _, guard := none }) rfl (by kernel_rfl) (by kernel_rfl) (by kernel_rfl) (fun _ _ _ h => h) (Or.inl ⟨by kernel_rfl, ?_⟩) (by assumption) ?_
  case refine_2 => (intro w9 hSw; have q0 := (Below.cell (p := ⟨gb, 0, none⟩) hSw hgb).trans r0; have q1 := (Below.cell (p := ⟨gb, 1, none⟩) hSw hgb).trans r1; have q2 := (Below.cell (p := ⟨gb, 2, none⟩) hSw hgb).trans r2; have q3 := (Below.cell (p := ⟨gb, 3, none⟩) hSw hgb).trans r3; have q4 := (Below.cell (p := ⟨gb, 4, none⟩) hSw hgb).trans r4; have q5 := (Below.cell (p := ⟨gb, 5, none⟩) hSw hgb).trans r5; have q6 := (Below.cell (p := ⟨gb, 6, none⟩) hSw hgb).trans r6; have q7 := (Below.cell (p := ⟨gb, 7, none⟩) hSw hgb).trans r7; have q8 := (Below.cell (p := ⟨gb, 8, none⟩) hSw hgb).trans r8; clear hSw; go_simp; try with_reducible rfl)
  simp only [Act.put, List.setIfInBounds_toArray, List.set_cons_zero, List.set_cons_succ]
  refine wpAnyH_take (i := 11) (v := ?_) (oi := { dst := some 44, op := _, type := _, pos := _, after := _, guard := none }) rfl (by kernel_rfl) (by kernel_rfl) (by kernel_rfl) (fun _ _ _ h => h) (Or.inl ⟨by kernel_rfl, ?_⟩) (by assumption) ?_
  case refine_2 => (intro w9 hSw; clear hSw; go_simp; try with_reducible rfl)
  simp only [Act.put, List.setIfInBounds_toArray, List.set_cons_zero, List.set_cons_succ]
  refine wpAnyH_take (i := 12) (v := ?_) (oi := { dst := some 45, op := _, type := _, pos := _, after := _, guard := none }) rfl (by kernel_rfl) (by kernel_rfl) (by kernel_rfl) (fun _ _ _ h => h) (Or.inl ⟨by kernel_rfl, ?_⟩) (by assumption) ?_
  case refine_2 => (intro w9 hSw; clear hSw; go_simp; try with_reducible rfl)
  simp only [Act.put, List.setIfInBounds_toArray, List.set_cons_zero, List.set_cons_succ]
  refine wpAnyH_take (i := 13) (v := ?_) (oi := { dst := some 46, op := _, type := _, pos := _, after := _, guard := none }) rfl (by kernel_rfl) (by kernel_rfl) (by kernel_rfl) (fun _ _ _ h => h) (Or.inl ⟨by kernel_rfl, ?_⟩) (by assumption) ?_
  case refine_2 => (intro w9 hSw; clear hSw; go_simp; try with_reducible rfl)
  simp only [Act.put, List.setIfInBounds_toArray, List.set_cons_zero, List.set_cons_succ]
  refine wpAnyH_take (i := 14) (v := ?_) (oi := { dst := some 47, op := _, type := _, pos := _, after := _, guard := none }) rfl (by kernel_rfl) (by kernel_rfl) (by kernel_rfl) (fun _ _ _ h => h) (Or.inl ⟨by kernel_rfl, ?_⟩) (by assumption) ?_
  case refine_2 => (intro w9 hSw; have q0 := (Below.cell (p := ⟨gb, 0, none⟩) hSw hgb).trans r0; have q1 := (Below.cell (p := ⟨gb, 1, none⟩) hSw hgb).trans r1; have q2 := (Below.cell (p := ⟨gb, 2, none⟩) hSw hgb).trans r2; have q3 := (Below.cell (p := ⟨gb, 3, none⟩) hSw hgb).trans r3; have q4 := (Below.cell (p := ⟨gb, 4, none⟩) hSw hgb).trans r4; have q5 := (Below.cell (p := ⟨gb, 5, none⟩) hSw hgb).trans r5; have q6 := (Below.cell (p := ⟨gb, 6, none⟩) hSw hgb).trans r6; have q7 := (Below.cell (p := ⟨gb, 7, none⟩) hSw hgb).trans r7; have q8 := (Below.cell (p := ⟨gb, 8, none⟩) hSw hgb).trans r8; clear hSw; go_simp; try with_reducible rfl)
  simp only [Act.put, List.setIfInBounds_toArray, List.set_cons_zero, List.set_cons_succ]
  refine wpAnyH_take (i := 15) (v := ?_) (oi := { dst := some 48, op := _, type := _, pos := _, after := _, guard := none }) rfl (by kernel_rfl) (by kernel_rfl) (by kernel_rfl) (fun _ _ _ h => h) (Or.inl ⟨by kernel_rfl, ?_⟩) (by assumption) ?_
  case refine_2 => (intro w9 hSw; clear hSw; go_simp; try with_reducible rfl)
  simp only [Act.put, List.setIfInBounds_toArray, List.set_cons_zero, List.set_cons_succ]
  refine wpAnyH_take (i := 16) (v := ?_) (oi := { dst := some 49, op := _, type := _, pos := _, after := _, guard := none }) rfl (by kernel_rfl) (by kernel_rfl) (by kernel_rfl) (fun _ _ _ h => h) (Or.inl ⟨by kernel_rfl, ?_⟩) (by assumption) ?_
  case refine_2 => (intro w9 hSw; clear hSw; go_simp; try with_reducible rfl)
  simp only [Act.put, List.setIfInBounds_toArray, List.set_cons_zero, List.set_cons_succ]
  refine wpAnyH_take (i := 17) (v := ?_) (oi := { dst := some 50, op := _, type := _, pos := _, after := _, guard := none }) rfl (by kernel_rfl) (by kernel_rfl) (by kernel_rfl) (fun _ _ _ h => h) (Or.inl ⟨by kernel_rfl, ?_⟩) (by assumption) ?_
  case refine_2 => (intro w9 hSw; clear hSw; go_simp; try with_reducible rfl)
  simp only [Act.put, List.setIfInBounds_toArray, List.set_cons_zero, List.set_cons_succ]
  refine wpAnyH_take (i := 18) (v := ?_) (oi := { dst := some 51, op := _, type := _, pos := _, after := _, guard := none }) rfl (by kernel_rfl) (by kernel_rfl) (by kernel_rfl) (fun _ _ _ h => h) (Or.inl ⟨by kernel_rfl, ?_⟩) (by assumption) ?_
  case refine_2 => (intro w9 hSw; have q0 := (Below.cell (p := ⟨gb, 0, none⟩) hSw hgb).trans r0; have q1 := (Below.cell (p := ⟨gb, 1, none⟩) hSw hgb).trans r1; have q2 := (Below.cell (p := ⟨gb, 2, none⟩) hSw hgb).trans r2; have q3 := (Below.cell (p := ⟨gb, 3, none⟩) hSw hgb).trans r3; have q4 := (Below.cell (p := ⟨gb, 4, none⟩) hSw hgb).trans r4; have q5 := (Below.cell (p := ⟨gb, 5, none⟩) hSw hgb).trans r5; have q6 := (Below.cell (p := ⟨gb, 6, none⟩) hSw hgb).trans r6; have q7 := (Below.cell (p := ⟨gb, 7, none⟩) hSw hgb).trans r7; have q8 := (Below.cell (p := ⟨gb, 8, none⟩) hSw hgb).trans r8; clear hSw; go_simp; try with_reducible rfl)
  simp only [Act.put, List.setIfInBounds_toArray, List.set_cons_zero, List.set_cons_succ]
  refine wpAnyH_take (i := 19) (v := ?_) (oi := { dst := some 52, op := _, type := _, pos := _, after := _, guard := none }) rfl (by kernel_rfl) (by kernel_rfl) (by kernel_rfl) (fun _ _ _ h => h) (Or.inl ⟨by kernel_rfl, ?_⟩) (by assumption) ?_
  case refine_2 => (intro w9 hSw; clear hSw; go_simp; try with_reducible rfl)
  simp only [Act.put, List.setIfInBounds_toArray, List.set_cons_zero, List.set_cons_succ]
  refine wpAnyH_take (i := 20) (v := ?_) (oi := { dst := some 53, op := _, type := _, pos := _, after := _, guard := none }) rfl (by kernel_rfl) (by kernel_rfl) (by kernel_rfl) (fun _ _ _ h => h) (Or.inl ⟨by kernel_rfl, ?_⟩) (by assumption) ?_
  case refine_2 => (intro w9 hSw; clear hSw; go_simp; try with_reducible rfl)
  simp only [Act.put, List.setIfInBounds_toArray, List.set_cons_zero, List.set_cons_succ]
  refine wpAnyH_take (i := 21) (v := ?_) (oi := { dst := some 54, op := _, type := _, pos := _, after := _, guard := none }) rfl (by kernel_rfl) (by kernel_rfl) (by kernel_rfl) (fun _ _ _ h => h) (Or.inl ⟨by kernel_rfl, ?_⟩) (by assumption) ?_
  case refine_2 => (intro w9 hSw; clear hSw; go_simp; try with_reducible rfl)
  simp only [Act.put, List.setIfInBounds_toArray, List.set_cons_zero, List.set_cons_succ]
  refine wpAnyH_take (i := 22) (v := ?_) (oi := { dst := some 55, op := _, type := _, pos := _, after := _, guard := none }) rfl (by kernel_rfl) (by kernel_rfl) (by kernel_rfl) (fun _ _ _ h => h) (Or.inl ⟨by kernel_rfl, ?_⟩) (by assumption) ?_
  case refine_2 => (intro w9 hSw; have q0 := (Below.cell (p := ⟨gb, 0, none⟩) hSw hgb).trans r0; have q1 := (Below.cell (p := ⟨gb, 1, none⟩) hSw hgb).trans r1; have q2 := (Below.cell (p := ⟨gb, 2, none⟩) hSw hgb).trans r2; have q3 := (Below.cell (p := ⟨gb, 3, none⟩) hSw hgb).trans r3; have q4 := (Below.cell (p := ⟨gb, 4, none⟩) hSw hgb).trans r4; have q5 := (Below.cell (p := ⟨gb, 5, none⟩) hSw hgb).trans r5; have q6 := (Below.cell (p := ⟨gb, 6, none⟩) hSw hgb).trans r6; have q7 := (Below.cell (p := ⟨gb, 7, none⟩) hSw hgb).trans r7; have q8 := (Below.cell (p := ⟨gb, 8, none⟩) hSw hgb).trans r8; clear hSw; go_simp; try with_reducible rfl)
  simp only [Act.put, List.setIfInBounds_toArray, List.set_cons_zero, List.set_cons_succ]
  refine wpAnyH_take (i := 23) (v := ?_) (oi := { dst := some 56, op := _, type := _, pos := _, after := _, guard := none }) rfl (by kernel_rfl) (by kernel_rfl) (by kernel_rfl) (fun _ _ _ h => h) (Or.inl ⟨by kernel_rfl, ?_⟩) (by assumption) ?_
  case refine_2 => (intro w9 hSw; clear hSw; go_simp; try with_reducible rfl)
  simp only [Act.put, List.setIfInBounds_toArray, List.set_cons_zero, List.set_cons_succ]
  refine wpAnyH_take (i := 24) (v := ?_) (oi := { dst := some 57, op := _, type := _, pos := _, after := _, guard := none }) rfl (by kernel_rfl) (by kernel_rfl) (by kernel_rfl) (fun _ _ _ h => h) (Or.inl ⟨by kernel_rfl, ?_⟩) (by assumption) ?_
  case refine_2 => (intro w9 hSw; clear hSw; go_simp; try with_reducible rfl)
  simp only [Act.put, List.setIfInBounds_toArray, List.set_cons_zero, List.set_cons_succ]
  refine wpAnyH_take (i := 25) (v := ?_) (oi := { dst := some 58, op := _, type := _, pos := _, after := _, guard := none }) rfl (by kernel_rfl) (by kernel_rfl) (by kernel_rfl) (fun _ _ _ h => h) (Or.inl ⟨by kernel_rfl, ?_⟩) (by assumption) ?_
  case refine_2 => (intro w9 hSw; clear hSw; go_simp; try with_reducible rfl)
  simp only [Act.put, List.setIfInBounds_toArray, List.set_cons_zero, List.set_cons_succ]
  refine wpAnyH_take (i := 26) (v := ?_) (oi := { dst := some 59, op := _, type := _, pos := _, after := _, guard := none }) rfl (by kernel_rfl) (by kernel_rfl) (by kernel_rfl) (fun _ _ _ h => h) (Or.inl ⟨by kernel_rfl, ?_⟩) (by assumption) ?_
  case refine_2 => (intro w9 hSw; have q0 := (Below.cell (p := ⟨gb, 0, none⟩) hSw hgb).trans r0; have q1 := (Below.cell (p := ⟨gb, 1, none⟩) hSw hgb).trans r1; have q2 := (Below.cell (p := ⟨gb, 2, none⟩) hSw hgb).trans r2; have q3 := (Below.cell (p := ⟨gb, 3, none⟩) hSw hgb).trans r3; have q4 := (Below.cell (p := ⟨gb, 4, none⟩) hSw hgb).trans r4; have q5 := (Below.cell (p := ⟨gb, 5, none⟩) hSw hgb).trans r5; have q6 := (Below.cell (p := ⟨gb, 6, none⟩) hSw hgb).trans r6; have q7 := (Below.cell (p := ⟨gb, 7, none⟩) hSw hgb).trans r7; have q8 := (Below.cell (p := ⟨gb, 8, none⟩) hSw hgb).trans r8; clear hSw; go_simp; try with_reducible rfl)
  simp only [Act.put, List.setIfInBounds_toArray, List.set_cons_zero, List.set_cons_succ]
  refine wpAnyH_take (i := 27) (v := ?_) (oi := { dst := some 60, op := _, type := _, pos := _, after := _, guard := none }) rfl (by kernel_rfl) (by kernel_rfl) (by kernel_rfl) (fun _ _ _ h => h) (Or.inl ⟨by kernel_rfl, ?_⟩) (by assumption) ?_
  case refine_2 => (intro w9 hSw; clear hSw; go_simp; try with_reducible rfl)
  simp only [Act.put, List.setIfInBounds_toArray, List.set_cons_zero, List.set_cons_succ]
  refine wpAnyH_take (i := 28) (v := ?_) (oi := { dst := some 61, op := _, type := _, pos := _, after := _, guard := none }) rfl (by kernel_rfl) (by kernel_rfl) (by kernel_rfl) (fun _ _ _ h => h) (Or.inl ⟨by kernel_rfl, ?_⟩) (by assumption) ?_
  case refine_2 => (intro w9 hSw; clear hSw; go_simp; try with_reducible rfl)
  simp only [Act.put, List.setIfInBounds_toArray, List.set_cons_zero, List.set_cons_succ]
  refine wpAnyH_take (i := 29) (v := ?_) (oi := { dst := some 62, op := _, type := _, pos := _, after := _, guard := none }) rfl (by kernel_rfl) (by kernel_rfl) (by kernel_rfl) (fun _ _ _ h => h) (Or.inl ⟨by kernel_rfl, ?_⟩) (by assumption) ?_
  case refine_2 => (intro w9 hSw; clear hSw; go_simp; try with_reducible rfl)
  simp only [Act.put, List.setIfInBounds_toArray, List.set_cons_zero, List.set_cons_succ]
  refine wpAnyH_take (i := 30) (v := ?_) (oi := { dst := some 63, op := _, type := _, pos := _, after := _, guard := none }) rfl (by kernel_rfl) (by kernel_rfl) (by kernel_rfl) (fun _ _ _ h => h) (Or.inl ⟨by kernel_rfl, ?_⟩) (by assumption) ?_
  case refine_2 => (intro w9 hSw; have q0 := (Below.cell (p := ⟨gb, 0, none⟩) hSw hgb).trans r0; have q1 := (Below.cell (p := ⟨gb, 1, none⟩) hSw hgb).trans r1; have q2 := (Below.cell (p := ⟨gb, 2, none⟩) hSw hgb).trans r2; have q3 := (Below.cell (p := ⟨gb, 3, none⟩) hSw hgb).trans r3; have q4 := (Below.cell (p := ⟨gb, 4, none⟩) hSw hgb).trans r4; have q5 := (Below.cell (p := ⟨gb, 5, none⟩) hSw hgb).trans r5; have q6 := (Below.cell (p := ⟨gb, 6, none⟩) hSw hgb).trans r6; have q7 := (Below.cell (p := ⟨gb, 7, none⟩) hSw hgb).trans r7; have q8 := (Below.cell (p := ⟨gb, 8, none⟩) hSw hgb).trans r8; clear hSw; go_simp; try with_reducible rfl)
  simp only [Act.put, List.setIfInBounds_toArray, List.set_cons_zero, List.set_cons_succ]
  refine wpAnyH_take (i := 31) (v := ?_) (oi := { dst := some 64, op := _, type := _, pos := _, after := _, guard := none }) rfl (by kernel_rfl) (by kernel_rfl) (by kernel_rfl) (fun _ _ _ h => h) (Or.inl ⟨by kernel_rfl, ?_⟩) (by assumption) ?_
  case refine_2 => (intro w9 hSw; clear hSw; go_simp; try with_reducible rfl)
  simp only [Act.put, List.setIfInBounds_toArray, List.set_cons_zero, List.set_cons_succ]
  refine wpAnyH_take (i := 32) (v := ?_) (oi := { dst := some 65, op := _, type := _, pos := _, after := _, guard := none }) rfl (by kernel_rfl) (by kernel_rfl) (by kernel_rfl) (fun _ _ _ h => h) (Or.inl ⟨by kernel_rfl, ?_⟩) (by assumption) ?_
  case refine_2 => (intro w9 hSw; clear hSw; go_simp; try with_reducible rfl)
  simp only [Act.put, List.setIfInBounds_toArray, List.set_cons_zero, List.set_cons_succ]
  refine wpAnyH_ready (rs := [33]) (by kernel_rfl) (by simp) (AllReadyH.cons (o := { dst := some 6, op := _, type := _, pos := _, after := _, guard := none }) rfl (fun K hK => ?_) AllReadyH.nil)
  go_simp
  refine hK.out _ _ (hHeld.alloc (Below.size hHeld) _) (fun _ => ?_)
  clear hK K
  refine gen_any (fun V => Below w3.heap.size w3 V ∧ (Bx V w4.heap.size zRule ∧ w3.heap.size ≤ w4.heap.size)) ⟨Below.alloc hHeld (Below.size hHeld) _, Bx.new w4 zRule _, Below.size hHeld⟩ ?_
  clear hHeld
  rintro w5 ⟨hHeld, Na⟩
  refine wpAnyH_ready (rs := [34]) (by kernel_rfl) (by simp) (AllReadyH.cons (o := { dst := none, op := _, type := _, pos := _, after := _, guard := none }) rfl (fun K hK => ?_) AllReadyH.nil)
  refine (if_pos (by kernel_rfl)).mpr (wp_store_mid 85 _ _ rfl w4.heap.size 0 #[.string f0, .int .i64 y, .int .i64 t, .int .i64 mo, .int .i64 oa, .int .i64 ob, .int .i64 oc, .int .i64 ta, .int .u8 tz, .int .i64 U, .string lt] rfl rfl Na.1.there (by kernel_rfl) (rule_one _ _ _ _ _ _ _ _ _ _ _) ?_)
  refine hK.out _ _ (below_setCells Na.2 [.string f0, .int .i64 y, .int .i64 t, .int .i64 mo, .int .i64 oa, .int .i64 ob, .int .i64 oc, .int .i64 ta, .int .u8 tz, .int .i64 U, .string lt] w5 0 hHeld) (fun _ => ?_)
  clear hK K
  refine gen_any (w1 := w5.setCells w4.heap.size 0 [.string f0, .int .i64 y, .int .i64 t, .int .i64 mo, .int .i64 oa, .int .i64 ob, .int .i64 oc, .int .i64 ta, .int .u8 tz, .int .i64 U, .string lt]) (fun V => Below w3.heap.size w3 V ∧ (Bx V w4.heap.size [.string f0, .int .i64 y, .int .i64 t, .int .i64 mo, .int .i64 oa, .int .i64 ob, .int .i64 oc, .int .i64 ta, .int .u8 tz, .int .i64 U, .string lt] ∧ w3.heap.size ≤ w4.heap.size)) ⟨below_setCells Na.2 _ w5 0 hHeld, Na.1.setAll _ rfl, Na.2⟩ ?_
  clear hHeld Na
  rintro w6 ⟨hHeld, Na⟩
  refine wpAnyH_done (by kernel_rfl) ?_ _
  have X6 : Hid (Bx w6 w.heap.size zRule) := X3.out.below hHeld
  have B6 : Hid (Below w.heap.size w w6) := B3.out.trans (Below.mono hHeld B3.out.size)
  have hne : w4.heap.size ≠ w.heap.size := by have := X3.out.1; have := Na.2; omega
  have h7 : w.heap.size ≤ w4.heap.size := by have := X3.out.1; have := Na.2; omega
  have N6 : Hid (Bx w6 w4.heap.size [.string f0, .int .i64 y, .int .i64 t, .int .i64 mo, .int .i64 oa, .int .i64 ob, .int .i64 oc, .int .i64 ta, .int .u8 tz, .int .i64 U, .string lt]) := Na.1
  have c2 := Na.1.c 2 rfl
  have c1 := Na.1.c 1 rfl
  have z2 := Na.1.f 2 rfl
  clear hHeld Na X3 B3 r0 r1 r2 r3 r4 r5 r6 r7 r8 s0 s1 s2 s3 s4 s5 s6 s7
  by_cases ht : t = 0
  · subst ht
    go_wp2_with fail
    have S7 : Hid (R7 w w4.heap.size [.string f0, .int .i64 y, .int .i64 y, .int .i64 mo, .int .i64 oa, .int .i64 ob, .int .i64 oc, .int .i64 ta, .int .u8 tz, .int .i64 U, .string lt] (w6.setCell ⟨w4.heap.size, 2, none⟩ (.int .i64 y))) := ⟨B6.out.setCell (p := ⟨w4.heap.size, 2, none⟩) h7 _, Bx.put N6.out 2 (.int .i64 y) (by simp), _, rfl, X6.out.setOther (b := w4.heap.size) (fun q => hne q.symm) [.int .i64 y] 2⟩
    refine wp_region_held_drew (S := R7 w w4.heap.size [.string f0, .int .i64 y, .int .i64 y, .int .i64 mo, .int .i64 oa, .int .i64 ob, .int .i64 oc, .int .i64 ta, .int .u8 tz, .int .i64 U, .string lt]) (by kernel_rfl) S7.out.drew (fun hHeld => ?_)
    refine gen_any (R7 w w4.heap.size [.string f0, .int .i64 y, .int .i64 y, .int .i64 mo, .int .i64 oa, .int .i64 ob, .int .i64 oc, .int .i64 ta, .int .u8 tz, .int .i64 U, .string lt]) hHeld ?_
    clear hHeld S7
    rintro w7 hHeld
    refine wpAnyH_take (i := 0) (v := ?_) (oi := { dst := some 72, op := _, type := _, pos := _, after := _, guard := none }) rfl (by kernel_rfl) (by kernel_rfl) (by kernel_rfl) (fun _ _ _ h => h) (Or.inl ⟨by kernel_rfl, ?_⟩) (by assumption) ?_
    case refine_2 => (intro w9 hSw; obtain ⟨zb, zx, _⟩ := hSw; have q0 := zx.c 0 rfl; have q1 := zx.c 1 rfl; have q2 := zx.c 2 rfl; have q3 := zx.c 3 rfl; have q4 := zx.c 4 rfl; have q5 := zx.c 5 rfl; have q6 := zx.c 6 rfl; have q7 := zx.c 7 rfl; have q8 := zx.c 8 rfl; have q9 := zx.c 9 rfl; have q10 := zx.c 10 rfl; clear zx zb; go_simp; try with_reducible rfl)
    simp only [Act.put, List.setIfInBounds_toArray, List.set_cons_zero, List.set_cons_succ]
    refine wpAnyH_take (i := 1) (v := ?_) (oi := { dst := some 73, op := _, type := _, pos := _, after := _, guard := none }) rfl (by kernel_rfl) (by kernel_rfl) (by kernel_rfl) (fun _ _ _ h => h) (Or.inl ⟨by kernel_rfl, ?_⟩) (by assumption) ?_
    case refine_2 => (intro w9 hSw; clear hSw; go_simp; try with_reducible rfl)
    simp only [Act.put, List.setIfInBounds_toArray, List.set_cons_zero, List.set_cons_succ]
    refine wpAnyH_take (i := 2) (v := ?_) (oi := { dst := some 74, op := _, type := _, pos := _, after := _, guard := none }) rfl (by kernel_rfl) (by kernel_rfl) (by kernel_rfl) (fun _ _ _ h => h) (Or.inl ⟨by kernel_rfl, ?_⟩) (by assumption) ?_
    case refine_2 => (intro w9 hSw; obtain ⟨zb, zx, _⟩ := hSw; have q0 := zx.c 0 rfl; have q1 := zx.c 1 rfl; have q2 := zx.c 2 rfl; have q3 := zx.c 3 rfl; have q4 := zx.c 4 rfl; have q5 := zx.c 5 rfl; have q6 := zx.c 6 rfl; have q7 := zx.c 7 rfl; have q8 := zx.c 8 rfl; have q9 := zx.c 9 rfl; have q10 := zx.c 10 rfl; clear zx zb; go_simp; try with_reducible rfl)
    simp only [Act.put, List.setIfInBounds_toArray, List.set_cons_zero, List.set_cons_succ]
    refine wpAnyH_take (i := 3) (v := ?_) (oi := { dst := some 75, op := _, type := _, pos := _, after := _, guard := none }) rfl (by kernel_rfl) (by kernel_rfl) (by kernel_rfl) (fun _ _ _ h => h) (Or.inl ⟨by kernel_rfl, ?_⟩) (by assumption) ?_
    case refine_2 => (intro w9 hSw; clear hSw; go_simp; try with_reducible rfl)
    simp only [Act.put, List.setIfInBounds_toArray, List.set_cons_zero, List.set_cons_succ]
    refine wpAnyH_take (i := 4) (v := ?_) (oi := { dst := some 76, op := _, type := _, pos := _, after := _, guard := none }) rfl (by kernel_rfl) (by kernel_rfl) (by kernel_rfl) (fun _ _ _ h => h) (Or.inl ⟨by kernel_rfl, ?_⟩) (by assumption) ?_
    case refine_2 => (intro w9 hSw; obtain ⟨zb, zx, _⟩ := hSw; have q0 := zx.c 0 rfl; have q1 := zx.c 1 rfl; have q2 := zx.c 2 rfl; have q3 := zx.c 3 rfl; have q4 := zx.c 4 rfl; have q5 := zx.c 5 rfl; have q6 := zx.c 6 rfl; have q7 := zx.c 7 rfl; have q8 := zx.c 8 rfl; have q9 := zx.c 9 rfl; have q10 := zx.c 10 rfl; clear zx zb; go_simp; try with_reducible rfl)
    simp only [Act.put, List.setIfInBounds_toArray, List.set_cons_zero, List.set_cons_succ]
    refine wpAnyH_take (i := 5) (v := ?_) (oi := { dst := some 77, op := _, type := _, pos := _, after := _, guard := none }) rfl (by kernel_rfl) (by kernel_rfl) (by kernel_rfl) (fun _ _ _ h => h) (Or.inl ⟨by kernel_rfl, ?_⟩) (by assumption) ?_
    case refine_2 => (intro w9 hSw; clear hSw; go_simp; try with_reducible rfl)
    simp only [Act.put, List.setIfInBounds_toArray, List.set_cons_zero, List.set_cons_succ]
    refine wpAnyH_ready (rs := [6]) (by kernel_rfl) (by simp) (AllReadyH.cons (o := { dst := none, op := _, type := _, pos := _, after := _, guard := none }) rfl (fun K hK => ?_) AllReadyH.nil)
    obtain ⟨hB7, hX7, l7, hl7, hZ7⟩ := id hHeld
    have hT7 : w7.there w.heap.size 0 11 := by have := hZ7.there; rw [hl7] at this; exact this
    have P1 : Below w.heap.size w (w7.setCells w.heap.size 0 [.string f0, .int .i64 y, .int .i64 y, .int .i64 mo, .int .i64 oa, .int .i64 ob, .int .i64 oc, .int .i64 ta, .int .u8 tz, .int .i64 U, .string lt]) := below_setCells (Nat.le_refl _) [.string f0, .int .i64 y, .int .i64 y, .int .i64 mo, .int .i64 oa, .int .i64 ob, .int .i64 oc, .int .i64 ta, .int .u8 tz, .int .i64 U, .string lt] w7 0 hB7
    have P2 : Bx (w7.setCells w.heap.size 0 [.string f0, .int .i64 y, .int .i64 y, .int .i64 mo, .int .i64 oa, .int .i64 ob, .int .i64 oc, .int .i64 ta, .int .u8 tz, .int .i64 U, .string lt]) w4.heap.size [.string f0, .int .i64 y, .int .i64 y, .int .i64 mo, .int .i64 oa, .int .i64 ob, .int .i64 oc, .int .i64 ta, .int .u8 tz, .int .i64 U, .string lt] := hX7.setOther hne [.string f0, .int .i64 y, .int .i64 y, .int .i64 mo, .int .i64 oa, .int .i64 ob, .int .i64 oc, .int .i64 ta, .int .u8 tz, .int .i64 U, .string lt]
    have P3 : Bx (w7.setCells w.heap.size 0 [.string f0, .int .i64 y, .int .i64 y, .int .i64 mo, .int .i64 oa, .int .i64 ob, .int .i64 oc, .int .i64 ta, .int .u8 tz, .int .i64 U, .string lt]) w.heap.size [.string f0, .int .i64 y, .int .i64 y, .int .i64 mo, .int .i64 oa, .int .i64 ob, .int .i64 oc, .int .i64 ta, .int .u8 tz, .int .i64 U, .string lt] := hZ7.setAll [.string f0, .int .i64 y, .int .i64 y, .int .i64 mo, .int .i64 oa, .int .i64 ob, .int .i64 oc, .int .i64 ta, .int .u8 tz, .int .i64 U, .string lt] hl7
    have P4 : R7 w w4.heap.size [.string f0, .int .i64 y, .int .i64 y, .int .i64 mo, .int .i64 oa, .int .i64 ob, .int .i64 oc, .int .i64 ta, .int .u8 tz, .int .i64 U, .string lt] (w7.setCells w.heap.size 0 [.string f0, .int .i64 y, .int .i64 y, .int .i64 mo, .int .i64 oa, .int .i64 ob, .int .i64 oc, .int .i64 ta, .int .u8 tz, .int .i64 U, .string lt]) := ⟨P1, P2, _, rfl, P3⟩
    refine (if_pos (by kernel_rfl)).mpr (wp_store_mid 85 _ _ rfl w.heap.size 0 #[.string f0, .int .i64 y, .int .i64 y, .int .i64 mo, .int .i64 oa, .int .i64 ob, .int .i64 oc, .int .i64 ta, .int .u8 tz, .int .i64 U, .string lt] rfl rfl hT7 (by kernel_rfl) (rule_one _ _ _ _ _ _ _ _ _ _ _) ?_)
    refine hK.out _ (w7.setCells w.heap.size 0 [.string f0, .int .i64 y, .int .i64 y, .int .i64 mo, .int .i64 oa, .int .i64 ob, .int .i64 oc, .int .i64 ta, .int .u8 tz, .int .i64 U, .string lt]) P4 (fun _ => ?_)
    clear hK K
    have P5 : R7 w w4.heap.size [.string f0, .int .i64 y, .int .i64 y, .int .i64 mo, .int .i64 oa, .int .i64 ob, .int .i64 oc, .int .i64 ta, .int .u8 tz, .int .i64 U, .string lt] (w7.setCells w.heap.size 0 [.string f0, .int .i64 y, .int .i64 y, .int .i64 mo, .int .i64 oa, .int .i64 ob, .int .i64 oc, .int .i64 ta, .int .u8 tz, .int .i64 U, .string lt]) ∧ Bx (w7.setCells w.heap.size 0 [.string f0, .int .i64 y, .int .i64 y, .int .i64 mo, .int .i64 oa, .int .i64 ob, .int .i64 oc, .int .i64 ta, .int .u8 tz, .int .i64 U, .string lt]) w.heap.size [.string f0, .int .i64 y, .int .i64 y, .int .i64 mo, .int .i64 oa, .int .i64 ob, .int .i64 oc, .int .i64 ta, .int .u8 tz, .int .i64 U, .string lt] ∧ Below w.heap.size w (w7.setCells w.heap.size 0 [.string f0, .int .i64 y, .int .i64 y, .int .i64 mo, .int .i64 oa, .int .i64 ob, .int .i64 oc, .int .i64 ta, .int .u8 tz, .int .i64 U, .string lt]) := ⟨P4, P3, P1⟩
    refine gen_any (w1 := w7.setCells w.heap.size 0 [.string f0, .int .i64 y, .int .i64 y, .int .i64 mo, .int .i64 oa, .int .i64 ob, .int .i64 oc, .int .i64 ta, .int .u8 tz, .int .i64 U, .string lt]) (fun V => R7 w w4.heap.size [.string f0, .int .i64 y, .int .i64 y, .int .i64 mo, .int .i64 oa, .int .i64 ob, .int .i64 oc, .int .i64 ta, .int .u8 tz, .int .i64 U, .string lt] V ∧ Bx V w.heap.size [.string f0, .int .i64 y, .int .i64 y, .int .i64 mo, .int .i64 oa, .int .i64 ob, .int .i64 oc, .int .i64 ta, .int .u8 tz, .int .i64 U, .string lt] ∧ Below w.heap.size w V) P5 ?_
    clear hHeld hB7 hX7 hl7 hZ7 hT7 P1 P2 P3 P4 P5
    rintro w8 ⟨hHeld, X8, B8⟩
    refine wpAnyH_take (i := 7) (v := ?_) (oi := { dst := some 3, op := _, type := _, pos := _, after := _, guard := none }) rfl (by kernel_rfl) (by kernel_rfl) (by kernel_rfl) (fun _ _ _ h => h) (Or.inl ⟨by kernel_rfl, ?_⟩) (by assumption) ?_
    case refine_2 => (intro w9 hSw; clear hSw; go_simp; try with_reducible rfl)
    simp only [Act.put, List.setIfInBounds_toArray, List.set_cons_zero, List.set_cons_succ]
    refine wpAnyH_done (by kernel_rfl) ?_ _
    have y0 := X8.c 0 rfl
    have y1 := X8.c 1 rfl
    have y2 := X8.c 2 rfl
    have y3 := X8.c 3 rfl
    have y4 := X8.c 4 rfl
    have y5 := X8.c 5 rfl
    have y6 := X8.c 6 rfl
    have y7 := X8.c 7 rfl
    have y8 := X8.c 8 rfl
    have y9 := X8.c 9 rfl
    have y10 := X8.c 10 rfl
    have HB : Hid (Below w.heap.size w w8) := B8
    clear X8 B8 hHeld
    go_wp2_with fail
    refine bodyPost_ret (v := .tuple #[.agg #[.string f0, .int .i64 y, .int .i64 y, .int .i64 mo, .int .i64 oa, .int .i64 ob, .int .i64 oc, .int .i64 ta, .int .u8 tz, .int .i64 U, .string lt], .bool (decide (y ≤ y))]) (by simp [results, Tryz.results80, go_sem, y0, y1, y2, y3, y4, y5, y6, y7, y8, y9, y10]) rfl ⟨ret_rule rfl (by simp), HB.out⟩
  · have ht' : (t == 0) = false := by simp [ht]
    go_wp2_with fail
    have S7 : Hid (R7 w w4.heap.size [.string f0, .int .i64 y, .int .i64 t, .int .i64 mo, .int .i64 oa, .int .i64 ob, .int .i64 oc, .int .i64 ta, .int .u8 tz, .int .i64 U, .string lt] w6) := ⟨B6.out, N6.out, _, rfl, X6.out⟩
    refine wp_region_held_drew (S := R7 w w4.heap.size [.string f0, .int .i64 y, .int .i64 t, .int .i64 mo, .int .i64 oa, .int .i64 ob, .int .i64 oc, .int .i64 ta, .int .u8 tz, .int .i64 U, .string lt]) (by kernel_rfl) S7.out.drew (fun hHeld => ?_)
    refine gen_any (R7 w w4.heap.size [.string f0, .int .i64 y, .int .i64 t, .int .i64 mo, .int .i64 oa, .int .i64 ob, .int .i64 oc, .int .i64 ta, .int .u8 tz, .int .i64 U, .string lt]) hHeld ?_
    clear hHeld S7
    rintro w7 hHeld
    refine wpAnyH_take (i := 0) (v := ?_) (oi := { dst := some 72, op := _, type := _, pos := _, after := _, guard := none }) rfl (by kernel_rfl) (by kernel_rfl) (by kernel_rfl) (fun _ _ _ h => h) (Or.inl ⟨by kernel_rfl, ?_⟩) (by assumption) ?_
    case refine_2 => (intro w9 hSw; obtain ⟨zb, zx, _⟩ := hSw; have q0 := zx.c 0 rfl; have q1 := zx.c 1 rfl; have q2 := zx.c 2 rfl; have q3 := zx.c 3 rfl; have q4 := zx.c 4 rfl; have q5 := zx.c 5 rfl; have q6 := zx.c 6 rfl; have q7 := zx.c 7 rfl; have q8 := zx.c 8 rfl; have q9 := zx.c 9 rfl; have q10 := zx.c 10 rfl; clear zx zb; go_simp; try with_reducible rfl)
    simp only [Act.put, List.setIfInBounds_toArray, List.set_cons_zero, List.set_cons_succ]
    refine wpAnyH_take (i := 1) (v := ?_) (oi := { dst := some 73, op := _, type := _, pos := _, after := _, guard := none }) rfl (by kernel_rfl) (by kernel_rfl) (by kernel_rfl) (fun _ _ _ h => h) (Or.inl ⟨by kernel_rfl, ?_⟩) (by assumption) ?_
    case refine_2 => (intro w9 hSw; clear hSw; go_simp; try with_reducible rfl)
    simp only [Act.put, List.setIfInBounds_toArray, List.set_cons_zero, List.set_cons_succ]
    refine wpAnyH_take (i := 2) (v := ?_) (oi := { dst := some 74, op := _, type := _, pos := _, after := _, guard := none }) rfl (by kernel_rfl) (by kernel_rfl) (by kernel_rfl) (fun _ _ _ h => h) (Or.inl ⟨by kernel_rfl, ?_⟩) (by assumption) ?_
    case refine_2 => (intro w9 hSw; obtain ⟨zb, zx, _⟩ := hSw; have q0 := zx.c 0 rfl; have q1 := zx.c 1 rfl; have q2 := zx.c 2 rfl; have q3 := zx.c 3 rfl; have q4 := zx.c 4 rfl; have q5 := zx.c 5 rfl; have q6 := zx.c 6 rfl; have q7 := zx.c 7 rfl; have q8 := zx.c 8 rfl; have q9 := zx.c 9 rfl; have q10 := zx.c 10 rfl; clear zx zb; go_simp; try with_reducible rfl)
    simp only [Act.put, List.setIfInBounds_toArray, List.set_cons_zero, List.set_cons_succ]
    refine wpAnyH_take (i := 3) (v := ?_) (oi := { dst := some 75, op := _, type := _, pos := _, after := _, guard := none }) rfl (by kernel_rfl) (by kernel_rfl) (by kernel_rfl) (fun _ _ _ h => h) (Or.inl ⟨by kernel_rfl, ?_⟩) (by assumption) ?_
    case refine_2 => (intro w9 hSw; clear hSw; go_simp; try with_reducible rfl)
    simp only [Act.put, List.setIfInBounds_toArray, List.set_cons_zero, List.set_cons_succ]
    refine wpAnyH_take (i := 4) (v := ?_) (oi := { dst := some 76, op := _, type := _, pos := _, after := _, guard := none }) rfl (by kernel_rfl) (by kernel_rfl) (by kernel_rfl) (fun _ _ _ h => h) (Or.inl ⟨by kernel_rfl, ?_⟩) (by assumption) ?_
    case refine_2 => (intro w9 hSw; obtain ⟨zb, zx, _⟩ := hSw; have q0 := zx.c 0 rfl; have q1 := zx.c 1 rfl; have q2 := zx.c 2 rfl; have q3 := zx.c 3 rfl; have q4 := zx.c 4 rfl; have q5 := zx.c 5 rfl; have q6 := zx.c 6 rfl; have q7 := zx.c 7 rfl; have q8 := zx.c 8 rfl; have q9 := zx.c 9 rfl; have q10 := zx.c 10 rfl; clear zx zb; go_simp; try with_reducible rfl)
    simp only [Act.put, List.setIfInBounds_toArray, List.set_cons_zero, List.set_cons_succ]
    refine wpAnyH_take (i := 5) (v := ?_) (oi := { dst := some 77, op := _, type := _, pos := _, after := _, guard := none }) rfl (by kernel_rfl) (by kernel_rfl) (by kernel_rfl) (fun _ _ _ h => h) (Or.inl ⟨by kernel_rfl, ?_⟩) (by assumption) ?_
    case refine_2 => (intro w9 hSw; clear hSw; go_simp; try with_reducible rfl)
    simp only [Act.put, List.setIfInBounds_toArray, List.set_cons_zero, List.set_cons_succ]
    refine wpAnyH_ready (rs := [6]) (by kernel_rfl) (by simp) (AllReadyH.cons (o := { dst := none, op := _, type := _, pos := _, after := _, guard := none }) rfl (fun K hK => ?_) AllReadyH.nil)
    obtain ⟨hB7, hX7, l7, hl7, hZ7⟩ := id hHeld
    have hT7 : w7.there w.heap.size 0 11 := by have := hZ7.there; rw [hl7] at this; exact this
    have P1 : Below w.heap.size w (w7.setCells w.heap.size 0 [.string f0, .int .i64 y, .int .i64 t, .int .i64 mo, .int .i64 oa, .int .i64 ob, .int .i64 oc, .int .i64 ta, .int .u8 tz, .int .i64 U, .string lt]) := below_setCells (Nat.le_refl _) [.string f0, .int .i64 y, .int .i64 t, .int .i64 mo, .int .i64 oa, .int .i64 ob, .int .i64 oc, .int .i64 ta, .int .u8 tz, .int .i64 U, .string lt] w7 0 hB7
    have P2 : Bx (w7.setCells w.heap.size 0 [.string f0, .int .i64 y, .int .i64 t, .int .i64 mo, .int .i64 oa, .int .i64 ob, .int .i64 oc, .int .i64 ta, .int .u8 tz, .int .i64 U, .string lt]) w4.heap.size [.string f0, .int .i64 y, .int .i64 t, .int .i64 mo, .int .i64 oa, .int .i64 ob, .int .i64 oc, .int .i64 ta, .int .u8 tz, .int .i64 U, .string lt] := hX7.setOther hne [.string f0, .int .i64 y, .int .i64 t, .int .i64 mo, .int .i64 oa, .int .i64 ob, .int .i64 oc, .int .i64 ta, .int .u8 tz, .int .i64 U, .string lt]
    have P3 : Bx (w7.setCells w.heap.size 0 [.string f0, .int .i64 y, .int .i64 t, .int .i64 mo, .int .i64 oa, .int .i64 ob, .int .i64 oc, .int .i64 ta, .int .u8 tz, .int .i64 U, .string lt]) w.heap.size [.string f0, .int .i64 y, .int .i64 t, .int .i64 mo, .int .i64 oa, .int .i64 ob, .int .i64 oc, .int .i64 ta, .int .u8 tz, .int .i64 U, .string lt] := hZ7.setAll [.string f0, .int .i64 y, .int .i64 t, .int .i64 mo, .int .i64 oa, .int .i64 ob, .int .i64 oc, .int .i64 ta, .int .u8 tz, .int .i64 U, .string lt] hl7
    have P4 : R7 w w4.heap.size [.string f0, .int .i64 y, .int .i64 t, .int .i64 mo, .int .i64 oa, .int .i64 ob, .int .i64 oc, .int .i64 ta, .int .u8 tz, .int .i64 U, .string lt] (w7.setCells w.heap.size 0 [.string f0, .int .i64 y, .int .i64 t, .int .i64 mo, .int .i64 oa, .int .i64 ob, .int .i64 oc, .int .i64 ta, .int .u8 tz, .int .i64 U, .string lt]) := ⟨P1, P2, _, rfl, P3⟩
    refine (if_pos (by kernel_rfl)).mpr (wp_store_mid 85 _ _ rfl w.heap.size 0 #[.string f0, .int .i64 y, .int .i64 t, .int .i64 mo, .int .i64 oa, .int .i64 ob, .int .i64 oc, .int .i64 ta, .int .u8 tz, .int .i64 U, .string lt] rfl rfl hT7 (by kernel_rfl) (rule_one _ _ _ _ _ _ _ _ _ _ _) ?_)
    refine hK.out _ (w7.setCells w.heap.size 0 [.string f0, .int .i64 y, .int .i64 t, .int .i64 mo, .int .i64 oa, .int .i64 ob, .int .i64 oc, .int .i64 ta, .int .u8 tz, .int .i64 U, .string lt]) P4 (fun _ => ?_)
    clear hK K
    have P5 : R7 w w4.heap.size [.string f0, .int .i64 y, .int .i64 t, .int .i64 mo, .int .i64 oa, .int .i64 ob, .int .i64 oc, .int .i64 ta, .int .u8 tz, .int .i64 U, .string lt] (w7.setCells w.heap.size 0 [.string f0, .int .i64 y, .int .i64 t, .int .i64 mo, .int .i64 oa, .int .i64 ob, .int .i64 oc, .int .i64 ta, .int .u8 tz, .int .i64 U, .string lt]) ∧ Bx (w7.setCells w.heap.size 0 [.string f0, .int .i64 y, .int .i64 t, .int .i64 mo, .int .i64 oa, .int .i64 ob, .int .i64 oc, .int .i64 ta, .int .u8 tz, .int .i64 U, .string lt]) w.heap.size [.string f0, .int .i64 y, .int .i64 t, .int .i64 mo, .int .i64 oa, .int .i64 ob, .int .i64 oc, .int .i64 ta, .int .u8 tz, .int .i64 U, .string lt] ∧ Below w.heap.size w (w7.setCells w.heap.size 0 [.string f0, .int .i64 y, .int .i64 t, .int .i64 mo, .int .i64 oa, .int .i64 ob, .int .i64 oc, .int .i64 ta, .int .u8 tz, .int .i64 U, .string lt]) := ⟨P4, P3, P1⟩
    refine gen_any (w1 := w7.setCells w.heap.size 0 [.string f0, .int .i64 y, .int .i64 t, .int .i64 mo, .int .i64 oa, .int .i64 ob, .int .i64 oc, .int .i64 ta, .int .u8 tz, .int .i64 U, .string lt]) (fun V => R7 w w4.heap.size [.string f0, .int .i64 y, .int .i64 t, .int .i64 mo, .int .i64 oa, .int .i64 ob, .int .i64 oc, .int .i64 ta, .int .u8 tz, .int .i64 U, .string lt] V ∧ Bx V w.heap.size [.string f0, .int .i64 y, .int .i64 t, .int .i64 mo, .int .i64 oa, .int .i64 ob, .int .i64 oc, .int .i64 ta, .int .u8 tz, .int .i64 U, .string lt] ∧ Below w.heap.size w V) P5 ?_
    clear hHeld hB7 hX7 hl7 hZ7 hT7 P1 P2 P3 P4 P5
    rintro w8 ⟨hHeld, X8, B8⟩
    refine wpAnyH_take (i := 7) (v := ?_) (oi := { dst := some 3, op := _, type := _, pos := _, after := _, guard := none }) rfl (by kernel_rfl) (by kernel_rfl) (by kernel_rfl) (fun _ _ _ h => h) (Or.inl ⟨by kernel_rfl, ?_⟩) (by assumption) ?_
    case refine_2 => (intro w9 hSw; clear hSw; go_simp; try with_reducible rfl)
    simp only [Act.put, List.setIfInBounds_toArray, List.set_cons_zero, List.set_cons_succ]
    refine wpAnyH_done (by kernel_rfl) ?_ _
    have y0 := X8.c 0 rfl
    have y1 := X8.c 1 rfl
    have y2 := X8.c 2 rfl
    have y3 := X8.c 3 rfl
    have y4 := X8.c 4 rfl
    have y5 := X8.c 5 rfl
    have y6 := X8.c 6 rfl
    have y7 := X8.c 7 rfl
    have y8 := X8.c 8 rfl
    have y9 := X8.c 9 rfl
    have y10 := X8.c 10 rfl
    have HB : Hid (Below w.heap.size w w8) := B8
    clear X8 B8 hHeld
    go_wp2_with fail
    refine bodyPost_ret (v := .tuple #[.agg #[.string f0, .int .i64 y, .int .i64 t, .int .i64 mo, .int .i64 oa, .int .i64 ob, .int .i64 oc, .int .i64 ta, .int .u8 tz, .int .i64 U, .string lt], .bool (decide (y ≤ t))]) (by simp [results, Tryz.results80, go_sem, y0, y1, y2, y3, y4, y5, y6, y7, y8, y9, y10]) rfl ⟨ret_rule rfl (by simp), HB.out⟩

end Go.Proofs.YtgnfkkcagbbhmaaGreatDoor
