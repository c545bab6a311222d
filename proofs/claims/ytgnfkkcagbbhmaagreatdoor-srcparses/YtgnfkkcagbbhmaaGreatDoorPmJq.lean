/- Contract: goOn of src's parser. -/
import Derived.Test.YtgnfkkcagbbhmaaGreatDoorPmIq
namespace Go.Proofs.YtgnfkkcagbbhmaaGreatDoor
open Go.RowKit
open Sr (gen_any gen_list)
set_option linter.unusedVariables false

set_option maxRecDepth 100000 in
set_option maxHeartbeats 1000000 in
theorem goOn_no (n : Int) (a : Option Addr) (k c : Nat) (r : EraT) (g : Nat) (V : World)
    (RR : Hid (∀ W : World, Below V.heap.size V W → Calls Tryz.prog 77 #[.slice a k c] W fun e W' => e = .returned (.tuple #[.agg #[.int .i64 r.off, .string r.rl, .int .i64 r.sv, .string r.fm, .int .i64 r.u.y, .int .i64 r.u.mo, .int .i64 r.u.oa, .int .i64 r.u.ob, .int .i64 r.u.oc, .int .i64 r.u.ta, .int .u8 r.u.tz], .bool false]) ∧ Below W.heap.size W W')) :
    Calls Tryz.prog 47 #[.pointer (some ⟨g, 0, none⟩), .agg #[.int .i64 n, .slice a k c]] V fun e W' => e = .returned (.int .i64 21) ∧ Below V.heap.size V W' := by
  have B1 : Hid (Below V.heap.size V (V.alloc (.cells #[.int .i64 n, .slice a k c] 54))) := (Below.refl _ _).alloc (Nat.le_refl _) _
  have L1 : Hid (Bx (V.alloc (.cells #[.int .i64 n, .slice a k c] 54)) V.heap.size [.int .i64 n, .slice a k c]) := Bx.new V [.int .i64 n, .slice a k c] _
  go_enter Tryz.func47, Tryz.ntmps47
  go_wp2_with fail
  refine (RR.out _ B1.out).mono ?_
  rintro e W1 ⟨rfl, hb⟩
  go_wp2
  go_ret
  have q : Below V.heap.size V W1 := NBs hb
  exact ⟨rfl, q.alloc q.size _⟩

set_option maxRecDepth 100000 in
set_option maxHeartbeats 1000000 in
theorem goOn_size (n : Int) (a : Option Addr) (k c : Nat) (r : EraT) (w : World) (g m B : Nat) (S : PSt) (vr vl ve vz : Value) (vs : List Value) (V : World) (h : PM w g m B S vr vl ve vz vs V) (l : List ZnT') (z : ZnT') (hS : S.zones = l ++ [z]) (hl9 : l.length ≤ 100000) (hz : z.2.length = 12)
    (RR : Hid (∀ W : World, Below V.heap.size V W → Calls Tryz.prog 77 #[.slice a k c] W fun e W' => e = .returned (.tuple #[.agg #[.int .i64 r.off, .string r.rl, .int .i64 r.sv, .string r.fm, .int .i64 r.u.y, .int .i64 r.u.mo, .int .i64 r.u.oa, .int .i64 r.u.ob, .int .i64 r.u.oc, .int .i64 r.u.ta, .int .u8 r.u.tz], .bool true]) ∧ Below W.heap.size W W')) :
    Calls Tryz.prog 47 #[.pointer (some ⟨g, 0, none⟩), .agg #[.int .i64 n, .slice a k c]] V fun e W' => e = .returned (.int .i64 3) ∧ Below V.heap.size V W' := by
  have B1 : Hid (Below V.heap.size V (V.alloc (.cells #[.int .i64 n, .slice a k c] 54))) := (Below.refl _ _).alloc (Nat.le_refl _) _
  have L1 : Hid (Bx (V.alloc (.cells #[.int .i64 n, .slice a k c] 54)) V.heap.size [.int .i64 n, .slice a k c]) := Bx.new V [.int .i64 n, .slice a k c] _
  go_enter Tryz.func47, Tryz.ntmps47
  go_wp2_with fail
  refine (RR.out _ B1.out).mono ?_
  rintro e W1 ⟨rfl, hb⟩
  have hB1 : Hid (Below V.heap.size V W1) := NBs hb
  have hL1 := L1.out.below hb
  obtain ⟨rb, hrb⟩ : ∃ rb, rb = W1.heap.size := ⟨_, rfl⟩
  obtain ⟨lb, hlb⟩ : ∃ lb, lb = V.heap.size := ⟨_, rfl⟩
  have hVrb : V.heap.size ≤ rb := by rw [hrb]; exact hB1.out.size
  obtain ⟨az, cz, hvz, hz1, hz2, hz3⟩ := own_rowP (h.fam.get 3 rfl)
  simp only at hvz hz1 hz3
  have hLn : S.zones.length = l.length + 1 := by rw [hS]; simp
  rw [hLn] at hvz hz1 hz3
  obtain ⟨zb, hzb, hzB⟩ := hz3 (by omega)
  subst hzb hvz
  clear hz3
  have hlen := h.len
  have hze : S.zones[l.length]? = some z := by rw [hS]; simp
  obtain ⟨v, hu0, hu1, hve⟩ := zoneXs_at _ _ _ _ hlen hze
  obtain ⟨s1, s2, s3, hv⟩ := own_sliceP (h.eraAt hze hve)
  subst hv
  have hs2 : s2 = z.2.length := by obtain ⟨_, _, q, _⟩ := own_rowP (h.eraAt hze hve); simp only [Value.slice.injEq] at q; exact q.2.1
  subst hs2
  have hwz : IntKind.i64.wrap (l.length : Int) = (l.length : Int) := by rw [IntKind.wrap_i64]; omega
  have hL0 : (0 : Int) ≤ (l.length : Int) := by omega
  have hL1' : (l.length : Int) < (l.length : Int) + 1 := by omega
  unfold maxLen at hz2
  have hL2 : (l.length : Int) + 1 ≤ 9223372036854775807 := by omega
  have E0 : Hid (Below V.heap.size V (W1.alloc (.cells #[.int .i64 r.off, .string r.rl, .int .i64 r.sv, .string r.fm, .int .i64 r.u.y, .int .i64 r.u.mo, .int .i64 r.u.oa, .int .i64 r.u.ob, .int .i64 r.u.oc, .int .i64 r.u.ta, .int .u8 r.u.tz] 94)) ∧ PM w g m B S vr vl ve (.slice (some ⟨zb, 0, none⟩) (l.length + 1) cz) vs (W1.alloc (.cells #[.int .i64 r.off, .string r.rl, .int .i64 r.sv, .string r.fm, .int .i64 r.u.y, .int .i64 r.u.mo, .int .i64 r.u.oa, .int .i64 r.u.ob, .int .i64 r.u.oc, .int .i64 r.u.ta, .int .u8 r.u.tz] 94)) ∧ Bx (W1.alloc (.cells #[.int .i64 r.off, .string r.rl, .int .i64 r.sv, .string r.fm, .int .i64 r.u.y, .int .i64 r.u.mo, .int .i64 r.u.oa, .int .i64 r.u.ob, .int .i64 r.u.oc, .int .i64 r.u.ta, .int .u8 r.u.tz] 94)) lb [.int .i64 n, .slice a k c] ∧ Bx (W1.alloc (.cells #[.int .i64 r.off, .string r.rl, .int .i64 r.sv, .string r.fm, .int .i64 r.u.y, .int .i64 r.u.mo, .int .i64 r.u.oa, .int .i64 r.u.ob, .int .i64 r.u.oc, .int .i64 r.u.ta, .int .u8 r.u.tz] 94)) rb r.cs) := ⟨hB1.out.alloc hB1.out.size _, h.below (hB1.out.alloc hB1.out.size _), by rw [hlb]; exact hL1.alloc _, by rw [hrb]; exact Bx.new W1 r.cs _⟩
  clear hb hB1 B1 hL1 L1
  go_upto_region 4 with fail
  refine gen_code (fun W => (Below V.heap.size V W ∧ PM w g m B S vr vl ve (.slice (some ⟨zb, 0, none⟩) (l.length + 1) cz) vs W ∧ Bx W lb [.int .i64 n, .slice a k c] ∧ Bx W rb r.cs)) E0.out ?_
  clear E0
  intro w1 hE
  have KK : Hid (Below V.heap.size V w1 ∧ PM w g m B S vr vl ve (.slice (some ⟨zb, 0, none⟩) (l.length + 1) cz) vs w1 ∧ Bx w1 lb [.int .i64 n, .slice a k c] ∧ Bx w1 rb r.cs) := hE
  clear hE
  rw [← hrb, ← hlb]
  clear hrb hlb
  go_wp2_with fail
  refine wp_region_held_drew (S := fun V' => (Below V.heap.size V V' ∧ PM w g m B S vr vl ve (.slice (some ⟨zb, 0, none⟩) (l.length + 1) cz) vs V' ∧ Bx V' lb [.int .i64 n, .slice a k c] ∧ Bx V' rb r.cs)) (by kernel_rfl) ⟨KK.out.1.drew, KK.out.2.1.drew, KK.out.2.2⟩ (fun hHeld => ?_)
  refine gen_any (fun V' => (Below V.heap.size V V' ∧ PM w g m B S vr vl ve (.slice (some ⟨zb, 0, none⟩) (l.length + 1) cz) vs V' ∧ Bx V' lb [.int .i64 n, .slice a k c] ∧ Bx V' rb r.cs)) hHeld ?_
  clear hHeld KK
  rintro w2 hHeld
  refine wpAnyH_take (i := 0) (v := ?_) (oi := { dst := some 15, op := _, type := _, pos := _, after := _, guard := none }) rfl (by kernel_rfl) (by kernel_rfl) (by kernel_rfl) (fun _ _ _ h => h) (Or.inl ⟨by kernel_rfl, ?_⟩) (by assumption) ?_
  case refine_2 => (intro w9 hSw; clear hSw; go_simp; try with_reducible rfl)
  simp only [Act.put, List.setIfInBounds_toArray, List.set_cons_zero, List.set_cons_succ]
  refine wpAnyH_take (i := 1) (v := ?_) (oi := { dst := some 16, op := _, type := _, pos := _, after := _, guard := none }) rfl (by kernel_rfl) (by kernel_rfl) (by kernel_rfl) (fun _ _ _ h => h) (Or.inl ⟨by kernel_rfl, ?_⟩) (by assumption) ?_
  case refine_2 => (intro w9 hSw; clear hSw; go_simp; try with_reducible rfl)
  simp only [Act.put, List.setIfInBounds_toArray, List.set_cons_zero, List.set_cons_succ]
  refine wpAnyH_take (i := 2) (v := ?_) (oi := { dst := some 17, op := _, type := _, pos := _, after := _, guard := none }) rfl (by kernel_rfl) (by kernel_rfl) (by kernel_rfl) (fun _ _ _ h => h) (Or.inl ⟨by kernel_rfl, ?_⟩) (by assumption) ?_
  case refine_2 => (intro w9 hSw; clear hSw; go_simp; try with_reducible rfl)
  simp only [Act.put, List.setIfInBounds_toArray, List.set_cons_zero, List.set_cons_succ]
  refine wpAnyH_take (i := 3) (v := ?_) (oi := { dst := some 18, op := _, type := _, pos := _, after := _, guard := none }) rfl (by kernel_rfl) (by kernel_rfl) (by kernel_rfl) (fun _ _ _ h => h) (Or.inl ⟨by kernel_rfl, ?_⟩) (by assumption) ?_
  case refine_2 => (intro w9 hSw; clear hSw; go_simp; try with_reducible rfl)
  simp only [Act.put, List.setIfInBounds_toArray, List.set_cons_zero, List.set_cons_succ]
  refine wpAnyH_take (i := 4) (v := ?_) (oi := { dst := some 19, op := _, type := _, pos := _, after := _, guard := none }) rfl (by kernel_rfl) (by kernel_rfl) (by kernel_rfl) (fun _ _ _ h => h) (Or.inl ⟨by kernel_rfl, ?_⟩) (by assumption) ?_
  case refine_2 => (intro w9 hSw; obtain ⟨_, zp, _, _⟩ := hSw; have q0 := zp.box.c 1 rfl; have q1 := zp.fam.cell (g := zb) (cap := cz) 3 rfl (by simp only [hLn]) hu1; have q2 := World.block_lt_of_cell? _ _ q1; clear zp; go_simp; try with_reducible rfl)
  simp only [Act.put, List.setIfInBounds_toArray, List.set_cons_zero, List.set_cons_succ]
  refine wpAnyH_take (i := 5) (v := ?_) (oi := { dst := some 20, op := _, type := _, pos := _, after := _, guard := none }) rfl (by kernel_rfl) (by kernel_rfl) (by kernel_rfl) (fun _ _ _ h => h) (Or.inl ⟨by kernel_rfl, ?_⟩) (by assumption) ?_
  case refine_2 => (intro w9 hSw; clear hSw; go_simp; try with_reducible rfl)
  simp only [Act.put, List.setIfInBounds_toArray, List.set_cons_zero, List.set_cons_succ]
  refine wpAnyH_take (i := 6) (v := ?_) (oi := { dst := some 21, op := _, type := _, pos := _, after := _, guard := none }) rfl (by kernel_rfl) (by kernel_rfl) (by kernel_rfl) (fun _ _ _ h => h) (Or.inl ⟨by kernel_rfl, ?_⟩) (by assumption) ?_
  case refine_2 => (intro w9 hSw; clear hSw; go_simp; try with_reducible rfl)
  simp only [Act.put, List.setIfInBounds_toArray, List.set_cons_zero, List.set_cons_succ]
  refine wpAnyH_take (i := 7) (v := ?_) (oi := { dst := some 22, op := _, type := _, pos := _, after := _, guard := none }) rfl (by kernel_rfl) (by kernel_rfl) (by kernel_rfl) (fun _ _ _ h => h) (Or.inl ⟨by kernel_rfl, ?_⟩) (by assumption) ?_
  case refine_2 => (intro w9 hSw; clear hSw; go_simp; try with_reducible rfl)
  simp only [Act.put, List.setIfInBounds_toArray, List.set_cons_zero, List.set_cons_succ]
  refine wpAnyH_take (i := 8) (v := ?_) (oi := { dst := some 23, op := _, type := _, pos := _, after := _, guard := none }) rfl (by kernel_rfl) (by kernel_rfl) (by kernel_rfl) (fun _ _ _ h => h) (Or.inl ⟨by kernel_rfl, ?_⟩) (by assumption) ?_
  case refine_2 => (intro w9 hSw; clear hSw; go_simp; try with_reducible rfl)
  simp only [Act.put, List.setIfInBounds_toArray, List.set_cons_zero, List.set_cons_succ]
  refine wpAnyH_take (i := 9) (v := ?_) (oi := { dst := some 24, op := _, type := _, pos := _, after := _, guard := none }) rfl (by kernel_rfl) (by kernel_rfl) (by kernel_rfl) (fun _ _ _ h => h) (Or.inl ⟨by kernel_rfl, ?_⟩) (by assumption) ?_
  case refine_2 => (intro w9 hSw; obtain ⟨_, zp, _, _⟩ := hSw; have q0 := zp.box.c 1 rfl; have q1 := zp.fam.cell (g := zb) (cap := cz) 3 rfl (by simp only [hLn]) hu1; have q2 := World.block_lt_of_cell? _ _ q1; clear zp; go_simp; try with_reducible rfl)
  simp only [Act.put, List.setIfInBounds_toArray, List.set_cons_zero, List.set_cons_succ]
  refine wpAnyH_take (i := 10) (v := ?_) (oi := { dst := some 25, op := _, type := _, pos := _, after := _, guard := none }) rfl (by kernel_rfl) (by kernel_rfl) (by kernel_rfl) (fun _ _ _ h => h) (Or.inl ⟨by kernel_rfl, ?_⟩) (by assumption) ?_
  case refine_2 => (intro w9 hSw; clear hSw; go_simp; try with_reducible rfl)
  simp only [Act.put, List.setIfInBounds_toArray, List.set_cons_zero, List.set_cons_succ]
  refine wpAnyH_take (i := 11) (v := ?_) (oi := { dst := some 26, op := _, type := _, pos := _, after := _, guard := none }) rfl (by kernel_rfl) (by kernel_rfl) (by kernel_rfl) (fun _ _ _ h => h) (Or.inl ⟨by kernel_rfl, ?_⟩) (by assumption) ?_
  case refine_2 => (intro w9 hSw; clear hSw; go_simp; try with_reducible rfl)
  simp only [Act.put, List.setIfInBounds_toArray, List.set_cons_zero, List.set_cons_succ]
  refine wpAnyH_take (i := 12) (v := ?_) (oi := { dst := some 27, op := _, type := _, pos := _, after := _, guard := none }) rfl (by kernel_rfl) (by kernel_rfl) (by kernel_rfl) (fun _ _ _ h => h) (Or.inl ⟨by kernel_rfl, ?_⟩) (by assumption) ?_
  case refine_2 => (intro w9 hSw; clear hSw; go_simp; try with_reducible rfl)
  simp only [Act.put, List.setIfInBounds_toArray, List.set_cons_zero, List.set_cons_succ]
  refine wpAnyH_take (i := 13) (v := ?_) (oi := { dst := some 28, op := _, type := _, pos := _, after := _, guard := none }) rfl (by kernel_rfl) (by kernel_rfl) (by kernel_rfl) (fun _ _ _ h => h) (Or.inl ⟨by kernel_rfl, ?_⟩) (by assumption) ?_
  case refine_2 => (intro w9 hSw; clear hSw; go_simp; try with_reducible rfl)
  simp only [Act.put, List.setIfInBounds_toArray, List.set_cons_zero, List.set_cons_succ]
  refine wpAnyH_take (i := 14) (v := ?_) (oi := { dst := some 29, op := _, type := _, pos := _, after := _, guard := none }) rfl (by kernel_rfl) (by kernel_rfl) (by kernel_rfl) (fun _ _ _ h => h) (Or.inl ⟨by kernel_rfl, ?_⟩) (by assumption) ?_
  case refine_2 => (intro w9 hSw; obtain ⟨_, zp, _, _⟩ := hSw; have q0 := zp.box.c 1 rfl; have q1 := zp.fam.cell (g := zb) (cap := cz) 3 rfl (by simp only [hLn]) hu1; have q2 := World.block_lt_of_cell? _ _ q1; clear zp; go_simp; try with_reducible rfl)
  simp only [Act.put, List.setIfInBounds_toArray, List.set_cons_zero, List.set_cons_succ]
  refine wpAnyH_take (i := 15) (v := ?_) (oi := { dst := some 30, op := _, type := _, pos := _, after := _, guard := none }) rfl (by kernel_rfl) (by kernel_rfl) (by kernel_rfl) (fun _ _ _ h => h) (Or.inl ⟨by kernel_rfl, ?_⟩) (by assumption) ?_
  case refine_2 => (intro w9 hSw; clear hSw; go_simp; try with_reducible rfl)
  simp only [Act.put, List.setIfInBounds_toArray, List.set_cons_zero, List.set_cons_succ]
  refine wpAnyH_take (i := 16) (v := ?_) (oi := { dst := some 31, op := _, type := _, pos := _, after := _, guard := none }) rfl (by kernel_rfl) (by kernel_rfl) (by kernel_rfl) (fun _ _ _ h => h) (Or.inl ⟨by kernel_rfl, ?_⟩) (by assumption) ?_
  case refine_2 => (intro w9 hSw; clear hSw; go_simp; try with_reducible rfl)
  simp only [Act.put, List.setIfInBounds_toArray, List.set_cons_zero, List.set_cons_succ]
  refine wpAnyH_done (by kernel_rfl) ?_ _
  have KK : Hid _ := hHeld
  clear hHeld
  have hz' : (z.2.length : Int) = 12 := by omega
  go_wp2_with fail
  go_ret
  exact ⟨rfl, KK.out.1⟩

set_option maxRecDepth 100000 in
set_option maxHeartbeats 1000000 in
theorem goOn_yes (n : Int) (a : Option Addr) (k c : Nat) (r : EraT) (w : World) (g m B : Nat) (S : PSt) (vr vl ve vz : Value) (vs : List Value) (V : World) (h : PM w g m B S vr vl ve vz vs V) (l : List ZnT') (z : ZnT') (hS : S.zones = l ++ [z]) (hl9 : l.length ≤ 100000) (hz : z.2.length ≠ 12) (hz9 : z.2.length ≤ 100000) (he9 : S.eras.length ≤ 100000)
    (RR : Hid (∀ W : World, Below V.heap.size V W → Calls Tryz.prog 77 #[.slice a k c] W fun e W' => e = .returned (.tuple #[.agg #[.int .i64 r.off, .string r.rl, .int .i64 r.sv, .string r.fm, .int .i64 r.u.y, .int .i64 r.u.mo, .int .i64 r.u.oa, .int .i64 r.u.ob, .int .i64 r.u.oc, .int .i64 r.u.ta, .int .u8 r.u.tz], .bool true]) ∧ Below W.heap.size W W')) :
    Calls Tryz.prog 47 #[.pointer (some ⟨g, 0, none⟩), .agg #[.int .i64 n, .slice a k c]] V fun e W' => e = .returned (.int .i64 0) ∧ ∃ ve' vz' vs', PM w g m B (addF S n r) vr vl ve' vz' vs' W' := by
  have B1 : Hid (Below V.heap.size V (V.alloc (.cells #[.int .i64 n, .slice a k c] 54))) := (Below.refl _ _).alloc (Nat.le_refl _) _
  have L1 : Hid (Bx (V.alloc (.cells #[.int .i64 n, .slice a k c] 54)) V.heap.size [.int .i64 n, .slice a k c]) := Bx.new V [.int .i64 n, .slice a k c] _
  go_enter Tryz.func47, Tryz.ntmps47
  go_wp2_with fail
  refine (RR.out _ B1.out).mono ?_
  rintro e W1 ⟨rfl, hb⟩
  have hB1 : Hid (Below V.heap.size V W1) := NBs hb
  have hL1 := L1.out.below hb
  obtain ⟨rb, hrb⟩ : ∃ rb, rb = W1.heap.size := ⟨_, rfl⟩
  obtain ⟨lb, hlb⟩ : ∃ lb, lb = V.heap.size := ⟨_, rfl⟩
  have hVrb : V.heap.size ≤ rb := by rw [hrb]; exact hB1.out.size
  obtain ⟨az, cz, hvz, hz1, hz2, hz3⟩ := own_rowP (h.fam.get 3 rfl)
  simp only at hvz hz1 hz3
  have hLn : S.zones.length = l.length + 1 := by rw [hS]; simp
  rw [hLn] at hvz hz1 hz3
  obtain ⟨zb, hzb, hzB⟩ := hz3 (by omega)
  subst hzb hvz
  clear hz3
  have hlen := h.len
  have hze : S.zones[l.length]? = some z := by rw [hS]; simp
  obtain ⟨v, hu0, hu1, hve⟩ := zoneXs_at _ _ _ _ hlen hze
  obtain ⟨s1, s2, s3, hv⟩ := own_sliceP (h.eraAt hze hve)
  subst hv
  have hs2 : s2 = z.2.length := by obtain ⟨_, _, q, _⟩ := own_rowP (h.eraAt hze hve); simp only [Value.slice.injEq] at q; exact q.2.1
  subst hs2
  have hwz : IntKind.i64.wrap (l.length : Int) = (l.length : Int) := by rw [IntKind.wrap_i64]; omega
  have hL0 : (0 : Int) ≤ (l.length : Int) := by omega
  have hL1' : (l.length : Int) < (l.length : Int) + 1 := by omega
  unfold maxLen at hz2
  have hL2 : (l.length : Int) + 1 ≤ 9223372036854775807 := by omega
  have E0 : Hid (Below V.heap.size V (W1.alloc (.cells #[.int .i64 r.off, .string r.rl, .int .i64 r.sv, .string r.fm, .int .i64 r.u.y, .int .i64 r.u.mo, .int .i64 r.u.oa, .int .i64 r.u.ob, .int .i64 r.u.oc, .int .i64 r.u.ta, .int .u8 r.u.tz] 94)) ∧ PM w g m B S vr vl ve (.slice (some ⟨zb, 0, none⟩) (l.length + 1) cz) vs (W1.alloc (.cells #[.int .i64 r.off, .string r.rl, .int .i64 r.sv, .string r.fm, .int .i64 r.u.y, .int .i64 r.u.mo, .int .i64 r.u.oa, .int .i64 r.u.ob, .int .i64 r.u.oc, .int .i64 r.u.ta, .int .u8 r.u.tz] 94)) ∧ Bx (W1.alloc (.cells #[.int .i64 r.off, .string r.rl, .int .i64 r.sv, .string r.fm, .int .i64 r.u.y, .int .i64 r.u.mo, .int .i64 r.u.oa, .int .i64 r.u.ob, .int .i64 r.u.oc, .int .i64 r.u.ta, .int .u8 r.u.tz] 94)) lb [.int .i64 n, .slice a k c] ∧ Bx (W1.alloc (.cells #[.int .i64 r.off, .string r.rl, .int .i64 r.sv, .string r.fm, .int .i64 r.u.y, .int .i64 r.u.mo, .int .i64 r.u.oa, .int .i64 r.u.ob, .int .i64 r.u.oc, .int .i64 r.u.ta, .int .u8 r.u.tz] 94)) rb r.cs) := ⟨hB1.out.alloc hB1.out.size _, h.below (hB1.out.alloc hB1.out.size _), by rw [hlb]; exact hL1.alloc _, by rw [hrb]; exact Bx.new W1 r.cs _⟩
  clear hb hB1 B1 hL1 L1
  go_upto_region 4 with fail
  refine gen_code (fun W => (Below V.heap.size V W ∧ PM w g m B S vr vl ve (.slice (some ⟨zb, 0, none⟩) (l.length + 1) cz) vs W ∧ Bx W lb [.int .i64 n, .slice a k c] ∧ Bx W rb r.cs)) E0.out ?_
  clear E0
  intro w1 hE
  have KK : Hid (Below V.heap.size V w1 ∧ PM w g m B S vr vl ve (.slice (some ⟨zb, 0, none⟩) (l.length + 1) cz) vs w1 ∧ Bx w1 lb [.int .i64 n, .slice a k c] ∧ Bx w1 rb r.cs) := hE
  clear hE
  rw [← hrb, ← hlb]
  clear hrb hlb
  go_wp2_with fail
  refine wp_region_held_drew (S := fun V' => (Below V.heap.size V V' ∧ PM w g m B S vr vl ve (.slice (some ⟨zb, 0, none⟩) (l.length + 1) cz) vs V' ∧ Bx V' lb [.int .i64 n, .slice a k c] ∧ Bx V' rb r.cs)) (by kernel_rfl) ⟨KK.out.1.drew, KK.out.2.1.drew, KK.out.2.2⟩ (fun hHeld => ?_)
  refine gen_any (fun V' => (Below V.heap.size V V' ∧ PM w g m B S vr vl ve (.slice (some ⟨zb, 0, none⟩) (l.length + 1) cz) vs V' ∧ Bx V' lb [.int .i64 n, .slice a k c] ∧ Bx V' rb r.cs)) hHeld ?_
  clear hHeld KK
  rintro w2 hHeld
  refine wpAnyH_take (i := 0) (v := ?_) (oi := { dst := some 15, op := _, type := _, pos := _, after := _, guard := none }) rfl (by kernel_rfl) (by kernel_rfl) (by kernel_rfl) (fun _ _ _ h => h) (Or.inl ⟨by kernel_rfl, ?_⟩) (by assumption) ?_
  case refine_2 => (intro w9 hSw; clear hSw; go_simp; try with_reducible rfl)
  simp only [Act.put, List.setIfInBounds_toArray, List.set_cons_zero, List.set_cons_succ]
  refine wpAnyH_take (i := 1) (v := ?_) (oi := { dst := some 16, op := _, type := _, pos := _, after := _, guard := none }) rfl (by kernel_rfl) (by kernel_rfl) (by kernel_rfl) (fun _ _ _ h => h) (Or.inl ⟨by kernel_rfl, ?_⟩) (by assumption) ?_
  case refine_2 => (intro w9 hSw; clear hSw; go_simp; try with_reducible rfl)
  simp only [Act.put, List.setIfInBounds_toArray, List.set_cons_zero, List.set_cons_succ]
  refine wpAnyH_take (i := 2) (v := ?_) (oi := { dst := some 17, op := _, type := _, pos := _, after := _, guard := none }) rfl (by kernel_rfl) (by kernel_rfl) (by kernel_rfl) (fun _ _ _ h => h) (Or.inl ⟨by kernel_rfl, ?_⟩) (by assumption) ?_
  case refine_2 => (intro w9 hSw; clear hSw; go_simp; try with_reducible rfl)
  simp only [Act.put, List.setIfInBounds_toArray, List.set_cons_zero, List.set_cons_succ]
  refine wpAnyH_take (i := 3) (v := ?_) (oi := { dst := some 18, op := _, type := _, pos := _, after := _, guard := none }) rfl (by kernel_rfl) (by kernel_rfl) (by kernel_rfl) (fun _ _ _ h => h) (Or.inl ⟨by kernel_rfl, ?_⟩) (by assumption) ?_
  case refine_2 => (intro w9 hSw; clear hSw; go_simp; try with_reducible rfl)
  simp only [Act.put, List.setIfInBounds_toArray, List.set_cons_zero, List.set_cons_succ]
  refine wpAnyH_take (i := 4) (v := ?_) (oi := { dst := some 19, op := _, type := _, pos := _, after := _, guard := none }) rfl (by kernel_rfl) (by kernel_rfl) (by kernel_rfl) (fun _ _ _ h => h) (Or.inl ⟨by kernel_rfl, ?_⟩) (by assumption) ?_
  case refine_2 => (intro w9 hSw; obtain ⟨_, zp, _, _⟩ := hSw; have q0 := zp.box.c 1 rfl; have q1 := zp.fam.cell (g := zb) (cap := cz) 3 rfl (by simp only [hLn]) hu1; have q2 := World.block_lt_of_cell? _ _ q1; clear zp; go_simp; try with_reducible rfl)
  simp only [Act.put, List.setIfInBounds_toArray, List.set_cons_zero, List.set_cons_succ]
  refine wpAnyH_take (i := 5) (v := ?_) (oi := { dst := some 20, op := _, type := _, pos := _, after := _, guard := none }) rfl (by kernel_rfl) (by kernel_rfl) (by kernel_rfl) (fun _ _ _ h => h) (Or.inl ⟨by kernel_rfl, ?_⟩) (by assumption) ?_
  case refine_2 => (intro w9 hSw; clear hSw; go_simp; try with_reducible rfl)
  simp only [Act.put, List.setIfInBounds_toArray, List.set_cons_zero, List.set_cons_succ]
  refine wpAnyH_take (i := 6) (v := ?_) (oi := { dst := some 21, op := _, type := _, pos := _, after := _, guard := none }) rfl (by kernel_rfl) (by kernel_rfl) (by kernel_rfl) (fun _ _ _ h => h) (Or.inl ⟨by kernel_rfl, ?_⟩) (by assumption) ?_
  case refine_2 => (intro w9 hSw; clear hSw; go_simp; try with_reducible rfl)
  simp only [Act.put, List.setIfInBounds_toArray, List.set_cons_zero, List.set_cons_succ]
  refine wpAnyH_take (i := 7) (v := ?_) (oi := { dst := some 22, op := _, type := _, pos := _, after := _, guard := none }) rfl (by kernel_rfl) (by kernel_rfl) (by kernel_rfl) (fun _ _ _ h => h) (Or.inl ⟨by kernel_rfl, ?_⟩) (by assumption) ?_
  case refine_2 => (intro w9 hSw; clear hSw; go_simp; try with_reducible rfl)
  simp only [Act.put, List.setIfInBounds_toArray, List.set_cons_zero, List.set_cons_succ]
  refine wpAnyH_take (i := 8) (v := ?_) (oi := { dst := some 23, op := _, type := _, pos := _, after := _, guard := none }) rfl (by kernel_rfl) (by kernel_rfl) (by kernel_rfl) (fun _ _ _ h => h) (Or.inl ⟨by kernel_rfl, ?_⟩) (by assumption) ?_
  case refine_2 => (intro w9 hSw; clear hSw; go_simp; try with_reducible rfl)
  simp only [Act.put, List.setIfInBounds_toArray, List.set_cons_zero, List.set_cons_succ]
  refine wpAnyH_take (i := 9) (v := ?_) (oi := { dst := some 24, op := _, type := _, pos := _, after := _, guard := none }) rfl (by kernel_rfl) (by kernel_rfl) (by kernel_rfl) (fun _ _ _ h => h) (Or.inl ⟨by kernel_rfl, ?_⟩) (by assumption) ?_
  case refine_2 => (intro w9 hSw; obtain ⟨_, zp, _, _⟩ := hSw; have q0 := zp.box.c 1 rfl; have q1 := zp.fam.cell (g := zb) (cap := cz) 3 rfl (by simp only [hLn]) hu1; have q2 := World.block_lt_of_cell? _ _ q1; clear zp; go_simp; try with_reducible rfl)
  simp only [Act.put, List.setIfInBounds_toArray, List.set_cons_zero, List.set_cons_succ]
  refine wpAnyH_take (i := 10) (v := ?_) (oi := { dst := some 25, op := _, type := _, pos := _, after := _, guard := none }) rfl (by kernel_rfl) (by kernel_rfl) (by kernel_rfl) (fun _ _ _ h => h) (Or.inl ⟨by kernel_rfl, ?_⟩) (by assumption) ?_
  case refine_2 => (intro w9 hSw; clear hSw; go_simp; try with_reducible rfl)
  simp only [Act.put, List.setIfInBounds_toArray, List.set_cons_zero, List.set_cons_succ]
  refine wpAnyH_take (i := 11) (v := ?_) (oi := { dst := some 26, op := _, type := _, pos := _, after := _, guard := none }) rfl (by kernel_rfl) (by kernel_rfl) (by kernel_rfl) (fun _ _ _ h => h) (Or.inl ⟨by kernel_rfl, ?_⟩) (by assumption) ?_
  case refine_2 => (intro w9 hSw; clear hSw; go_simp; try with_reducible rfl)
  simp only [Act.put, List.setIfInBounds_toArray, List.set_cons_zero, List.set_cons_succ]
  refine wpAnyH_take (i := 12) (v := ?_) (oi := { dst := some 27, op := _, type := _, pos := _, after := _, guard := none }) rfl (by kernel_rfl) (by kernel_rfl) (by kernel_rfl) (fun _ _ _ h => h) (Or.inl ⟨by kernel_rfl, ?_⟩) (by assumption) ?_
  case refine_2 => (intro w9 hSw; clear hSw; go_simp; try with_reducible rfl)
  simp only [Act.put, List.setIfInBounds_toArray, List.set_cons_zero, List.set_cons_succ]
  refine wpAnyH_take (i := 13) (v := ?_) (oi := { dst := some 28, op := _, type := _, pos := _, after := _, guard := none }) rfl (by kernel_rfl) (by kernel_rfl) (by kernel_rfl) (fun _ _ _ h => h) (Or.inl ⟨by kernel_rfl, ?_⟩) (by assumption) ?_
  case refine_2 => (intro w9 hSw; clear hSw; go_simp; try with_reducible rfl)
  simp only [Act.put, List.setIfInBounds_toArray, List.set_cons_zero, List.set_cons_succ]
  refine wpAnyH_take (i := 14) (v := ?_) (oi := { dst := some 29, op := _, type := _, pos := _, after := _, guard := none }) rfl (by kernel_rfl) (by kernel_rfl) (by kernel_rfl) (fun _ _ _ h => h) (Or.inl ⟨by kernel_rfl, ?_⟩) (by assumption) ?_
  case refine_2 => (intro w9 hSw; obtain ⟨_, zp, _, _⟩ := hSw; have q0 := zp.box.c 1 rfl; have q1 := zp.fam.cell (g := zb) (cap := cz) 3 rfl (by simp only [hLn]) hu1; have q2 := World.block_lt_of_cell? _ _ q1; clear zp; go_simp; try with_reducible rfl)
  simp only [Act.put, List.setIfInBounds_toArray, List.set_cons_zero, List.set_cons_succ]
  refine wpAnyH_take (i := 15) (v := ?_) (oi := { dst := some 30, op := _, type := _, pos := _, after := _, guard := none }) rfl (by kernel_rfl) (by kernel_rfl) (by kernel_rfl) (fun _ _ _ h => h) (Or.inl ⟨by kernel_rfl, ?_⟩) (by assumption) ?_
  case refine_2 => (intro w9 hSw; clear hSw; go_simp; try with_reducible rfl)
  simp only [Act.put, List.setIfInBounds_toArray, List.set_cons_zero, List.set_cons_succ]
  refine wpAnyH_take (i := 16) (v := ?_) (oi := { dst := some 31, op := _, type := _, pos := _, after := _, guard := none }) rfl (by kernel_rfl) (by kernel_rfl) (by kernel_rfl) (fun _ _ _ h => h) (Or.inl ⟨by kernel_rfl, ?_⟩) (by assumption) ?_
  case refine_2 => (intro w9 hSw; clear hSw; go_simp; try with_reducible rfl)
  simp only [Act.put, List.setIfInBounds_toArray, List.set_cons_zero, List.set_cons_succ]
  refine wpAnyH_done (by kernel_rfl) ?_ _
  have KK : Hid _ := hHeld
  clear hHeld
  have hz' : ¬ (z.2.length : Int) = 12 := by omega
  have y0 := KK.out.2.2.1.c 0 rfl
  have hlb5 := KK.out.2.2.1.1
  have e0 := KK.out.2.2.2.c 0 rfl
  have e1 := KK.out.2.2.2.c 1 rfl
  have e2 := KK.out.2.2.2.c 2 rfl
  have e3 := KK.out.2.2.2.c 3 rfl
  have e4 := KK.out.2.2.2.c 4 rfl
  have e5 := KK.out.2.2.2.c 5 rfl
  have e6 := KK.out.2.2.2.c 6 rfl
  have e7 := KK.out.2.2.2.c 7 rfl
  have e8 := KK.out.2.2.2.c 8 rfl
  have e9 := KK.out.2.2.2.c 9 rfl
  have e10 := KK.out.2.2.2.c 10 rfl
  have hrb5 := KK.out.2.2.2.1
  have HS9 : Hid (S.zones = l ++ [z]) := hS
  clear hlen hze hu0 hu1 hve hwz hL0 hL1' hL2 hLn hS h hz2 hz1
  go_wp2_with fail
  refine (padd_any w g m B S vr vl ve _ _ _ KK.out.2.1 n r l z HS9.out hl9 hz9 he9).mono ?_
  rintro e w6 ⟨rfl, ve', vs', hP⟩
  have HP : Hid _ := hP
  clear hP
  go_wp2_with fail
  go_ret
  exact ⟨rfl, _, _, _, HP.out⟩

end Go.Proofs.YtgnfkkcagbbhmaaGreatDoor
