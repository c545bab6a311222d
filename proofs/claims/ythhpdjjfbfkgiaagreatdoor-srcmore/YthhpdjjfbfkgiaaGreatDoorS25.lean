import Derived.Test.YthhpdjjfbfkgiaaGreatDoorS24
import Derived.Test.YthhpdjjfbfkgiaaGreatDoorS10
/- Contract: goOn of src's parser. -/
namespace Go.Proofs.YthhpdjjfbfkgiaaGreatDoor
open Go.RowKit
open Sr (gen_any gen_list)
set_option linter.unusedVariables false

set_option maxRecDepth 100000 in
set_option maxHeartbeats 1000000 in
theorem goOn_no (n : Int) (a : Option Addr) (k c : Nat) (r : EraT) (g : Nat) (V : World)
    (RR : Hid (∀ W : World, Below V.heap.size V W → Calls Tryz.prog 27 #[.slice a k c] W fun e W' => e = .returned (.tuple #[.agg #[.int .i64 r.off, .string r.rl, .int .i64 r.sv, .string r.fm, .int .i64 r.u.y, .int .i64 r.u.mo, .int .i64 r.u.oa, .int .i64 r.u.ob, .int .i64 r.u.oc, .int .i64 r.u.ta, .int .u8 r.u.tz], .bool false]) ∧ Below W.heap.size W W')) :
    Calls Tryz.prog 16 #[.pointer (some ⟨g, 0, none⟩), .agg #[.int .i64 n, .slice a k c]] V fun e W' => e = .returned (.int .i64 21) ∧ Below V.heap.size V W' := by
  have B1 : Hid (Below V.heap.size V (V.alloc (.cells #[.int .i64 n, .slice a k c] 54))) := (Below.refl _ _).alloc (Nat.le_refl _) _
  have L1 : Hid (Bx (V.alloc (.cells #[.int .i64 n, .slice a k c] 54)) V.heap.size [.int .i64 n, .slice a k c]) := Bx.new V [.int .i64 n, .slice a k c] _
  go_enter Tryz.func16, Tryz.ntmps16
  go_wp2_with fail
  refine (RR.out _ B1.out).mono ?_
  rintro e W1 ⟨rfl, hb⟩
  go_wp2
  go_ret
  have q : Below V.heap.size V W1 := NBs hb
  exact ⟨rfl, q.alloc q.size _⟩

set_option maxRecDepth 100000 in
set_option maxHeartbeats 1000000 in
theorem goOn_size (n : Int) (a : Option Addr) (k c : Nat) (r : EraT) (w : World) (g m B : Nat) (S : PSt) (vr vl ve vz : Value) (vs : List Value) (V : World) (h : PM w g m B S vr vl ve vz vs V) (l : List ZnT') (z : ZnT') (hS : S.zones = l ++ [z]) (hl9 : l.length ≤ 100000) (hz : z.2.length = 12)
    (RR : Hid (∀ W : World, Below V.heap.size V W → Calls Tryz.prog 27 #[.slice a k c] W fun e W' => e = .returned (.tuple #[.agg #[.int .i64 r.off, .string r.rl, .int .i64 r.sv, .string r.fm, .int .i64 r.u.y, .int .i64 r.u.mo, .int .i64 r.u.oa, .int .i64 r.u.ob, .int .i64 r.u.oc, .int .i64 r.u.ta, .int .u8 r.u.tz], .bool true]) ∧ Below W.heap.size W W')) :
    Calls Tryz.prog 16 #[.pointer (some ⟨g, 0, none⟩), .agg #[.int .i64 n, .slice a k c]] V fun e W' => e = .returned (.int .i64 3) ∧ Below V.heap.size V W' := by
  have B1 : Hid (Below V.heap.size V (V.alloc (.cells #[.int .i64 n, .slice a k c] 54))) := (Below.refl _ _).alloc (Nat.le_refl _) _
  have L1 : Hid (Bx (V.alloc (.cells #[.int .i64 n, .slice a k c] 54)) V.heap.size [.int .i64 n, .slice a k c]) := Bx.new V [.int .i64 n, .slice a k c] _
  go_enter Tryz.func16, Tryz.ntmps16
  go_wp2_with fail
  refine (RR.out _ B1.out).mono ?_
  rintro e W1 ⟨rfl, hb⟩
  have hB1 : Hid (Below V.heap.size V W1) := NBs hb
  have hL1 := L1.out.below hb
  obtain ⟨rb, hrb⟩ : ∃ rb, rb = W1.heap.size := ⟨_, rfl⟩
  obtain ⟨lb, hlb⟩ : ∃ lb, lb = V.heap.size := ⟨_, rfl⟩
  have hVrb : V.heap.size ≤ rb := by rw [hrb]; exact hB1.out.size
  obtain ⟨az, cz, hvz, hz1, hz2, hz3⟩ := own_rowP (h.fam.get 3 rfl)
  simp only at hvz hz1 hz3
  have hLn : S.zones.length = l.length + 1 := by rw [hS]; simp
  rw [hLn] at hvz hz1 hz3
  obtain ⟨zb, hzb, hzB⟩ := hz3 (by omega)
  subst hzb hvz
  clear hz3
  have hlen := h.len
  have hze : S.zones[l.length]? = some z := by rw [hS]; simp
  obtain ⟨v, hu0, hu1, hve⟩ := zoneXs_at _ _ _ _ hlen hze
  obtain ⟨s1, s2, s3, hv⟩ := own_sliceP (h.eraAt hze hve)
  subst hv
  have hs2 : s2 = z.2.length := by obtain ⟨_, _, q, _⟩ := own_rowP (h.eraAt hze hve); simp only [Value.slice.injEq] at q; exact q.2.1
  subst hs2
  have hwz : IntKind.i64.wrap (l.length : Int) = (l.length : Int) := by rw [IntKind.wrap_i64]; omega
  have hL0 : (0 : Int) ≤ (l.length : Int) := by omega
  have hL1' : (l.length : Int) < (l.length : Int) + 1 := by omega
  unfold maxLen at hz2
  have hL2 : (l.length : Int) + 1 ≤ 9223372036854775807 := by omega
  have E0 : Hid (Below V.heap.size V (W1.alloc (.cells #[.int .i64 r.off, .string r.rl, .int .i64 r.sv, .string r.fm, .int .i64 r.u.y, .int .i64 r.u.mo, .int .i64 r.u.oa, .int .i64 r.u.ob, .int .i64 r.u.oc, .int .i64 r.u.ta, .int .u8 r.u.tz] 73)) ∧ PM w g m B S vr vl ve (.slice (some ⟨zb, 0, none⟩) (l.length + 1) cz) vs (W1.alloc (.cells #[.int .i64 r.off, .string r.rl, .int .i64 r.sv, .string r.fm, .int .i64 r.u.y, .int .i64 r.u.mo, .int .i64 r.u.oa, .int .i64 r.u.ob, .int .i64 r.u.oc, .int .i64 r.u.ta, .int .u8 r.u.tz] 73)) ∧ Bx (W1.alloc (.cells #[.int .i64 r.off, .string r.rl, .int .i64 r.sv, .string r.fm, .int .i64 r.u.y, .int .i64 r.u.mo, .int .i64 r.u.oa, .int .i64 r.u.ob, .int .i64 r.u.oc, .int .i64 r.u.ta, .int .u8 r.u.tz] 73)) lb [.int .i64 n, .slice a k c] ∧ Bx (W1.alloc (.cells #[.int .i64 r.off, .string r.rl, .int .i64 r.sv, .string r.fm, .int .i64 r.u.y, .int .i64 r.u.mo, .int .i64 r.u.oa, .int .i64 r.u.ob, .int .i64 r.u.oc, .int .i64 r.u.ta, .int .u8 r.u.tz] 73)) rb r.cs) := ⟨hB1.out.alloc hB1.out.size _, h.below (hB1.out.alloc hB1.out.size _), by rw [hlb]; exact hL1.alloc _, by rw [hrb]; exact Bx.new W1 r.cs _⟩
  clear hb hB1 B1 hL1 L1
  go_upto_region 4 with fail
  refine gen_code (fun W => (Below V.heap.size V W ∧ PM w g m B S vr vl ve (.slice (some ⟨zb, 0, none⟩) (l.length + 1) cz) vs W ∧ Bx W lb [.int .i64 n, .slice a k c] ∧ Bx W rb r.cs)) E0.out ?_
  clear E0
  intro w1 hE
  have KK : Hid (Below V.heap.size V w1 ∧ PM w g m B S vr vl ve (.slice (some ⟨zb, 0, none⟩) (l.length + 1) cz) vs w1 ∧ Bx w1 lb [.int .i64 n, .slice a k c] ∧ Bx w1 rb r.cs) := hE
  clear hE
  rw [← hrb, ← hlb]
  clear hrb hlb
  go_wp2_with fail
  refine wp_region_held_drew (S := fun V' => (Below V.heap.size V V' ∧ PM w g m B S vr vl ve (.slice (some ⟨zb, 0, none⟩) (l.length + 1) cz) vs V' ∧ Bx V' lb [.int .i64 n, .slice a k c] ∧ Bx V' rb r.cs)) (by kernel_rfl) ⟨KK.out.1.drew, KK.out.2.1.drew, KK.out.2.2⟩ (fun hHeld => ?_)
  refine gen_any (fun V' => (Below V.heap.size V V' ∧ PM w g m B S vr vl ve (.slice (some ⟨zb, 0, none⟩) (l.length + 1) cz) vs V' ∧ Bx V' lb [.int .i64 n, .slice a k c] ∧ Bx V' rb r.cs)) hHeld ?_
  clear hHeld KK
  rintro w2 hHeld
  refine wpAnyH_take (i := 0) (v := ?_) (oi := { dst := some 15, op := _, type := _, pos := _, after := _, guard := none }) rfl (by kernel_rfl) (by kernel_rfl) (by kernel_rfl) (fun _ _ _ h => h) (Or.inl ⟨by kernel_rfl, ?_⟩) (by assumption) ?_
  case refine_2 => (intro w9 hSw; clear hSw; go_simp; try with_reducible rfl)
  simp only [Act.put, List.setIfInBounds_toArray, List.set_cons_zero, List.set_cons_succ]
  refine wpAnyH_take (i := 1) (v := ?_) (oi := { dst := some 16, op := _, type := _, pos := _, after := _, guard := none }) rfl (by kernel_rfl) (by kernel_rfl) (by kernel_rfl) (fun _ _ _ h => h) (Or.inl ⟨by kernel_rfl, ?_⟩) (by assumption) ?_
  case refine_2 => (intro w9 hSw; clear hSw; go_simp; try with_reducible rfl)
  simp only [Act.put, List.setIfInBounds_toArray, List.set_cons_zero, List.set_cons_succ]
  refine wpAnyH_take (i := 2) (v := ?_) (oi := { dst := some 17, op := _, type := _, pos := _, after := _, guard := none }) rfl (by kernel_rfl) (by kernel_rfl) (by kernel_rfl) (fun _ _ _ h => h) (Or.inl ⟨by kernel_rfl, ?_⟩) (by assumption) ?_
  case refine_2 => (intro w9 hSw; clear hSw; go_simp; try with_reducible rfl)
  simp only [Act.put, List.setIfInBounds_toArray, List.set_cons_zero, List.set_cons_succ]
  refine wpAnyH_take (i := 3) (v := ?_) (oi := { dst := some 18, op := _, type := _, pos := _, after := _, guard := none }) rfl (by kernel_rfl) (by kernel_rfl) (by kernel_rfl) (fun _ _ _ h => h) (Or.inl ⟨by kernel_rfl, ?_⟩) (by assumption) ?_
  case refine_2 => (intro w9 hSw; clear hSw; go_simp; try with_reducible rfl)
  simp only [Act.put, List.setIfInBounds_toArray, List.set_cons_zero, List.set_cons_succ]
  refine wpAnyH_take (i := 4) (v := ?_) (oi := { dst := some 19, op := _, type := _, pos := _, after := _, guard := none }) rfl (by kernel_rfl) (by kernel_rfl) (by kernel_rfl) (fun _ _ _ h => h) (Or.inl ⟨by kernel_rfl, ?_⟩) (by assumption) ?_
  case refine_2 => (intro w9 hSw; obtain ⟨_, zp, _, _⟩ := hSw; have q0 := zp.box.c 1 rfl; have q1 := zp.fam.cell (g := zb) (cap := cz) 3 rfl (by simp only [hLn]) hu1; have q2 := World.block_lt_of_cell? _ _ q1; clear zp; go_simp; try with_reducible rfl)
  simp only [Act.put, List.setIfInBounds_toArray, List.set_cons_zero, List.set_cons_succ]
  refine wpAnyH_take (i := 5) (v := ?_) (oi := { dst := some 20, op := _, type := _, pos := _, after := _, guard := none }) rfl (by kernel_rfl) (by kernel_rfl) (by kernel_rfl) (fun _ _ _ h => h) (Or.inl ⟨by kernel_rfl, ?_⟩) (by assumption) ?_
  case refine_2 => (intro w9 hSw; clear hSw; go_simp; try with_reducible rfl)
  simp only [Act.put, List.setIfInBounds_toArray, List.set_cons_zero, List.set_cons_succ]
  refine wpAnyH_take (i := 6) (v := ?_) (oi := { dst := some 21, op := _, type := _, pos := _, after := _, guard := none }) rfl (by kernel_rfl) (by kernel_rfl) (by kernel_rfl) (fun _ _ _ h => h) (Or.inl ⟨by kernel_rfl, ?_⟩) (by assumption) ?_
  case refine_2 => (intro w9 hSw; clear hSw; go_simp; try with_reducible rfl)
  simp only [Act.put, List.setIfInBounds_toArray, List.set_cons_zero, List.set_cons_succ]
  refine wpAnyH_take (i := 7) (v := ?_) (oi := { dst := some 22, op := _, type := _, pos := _, after := _, guard := none }) rfl (by kernel_rfl) (by kernel_rfl) (by kernel_rfl) (fun _ _ _ h => h) (Or.inl ⟨by kernel_rfl, ?_⟩) (by assumption) ?_
  case refine_2 => (intro w9 hSw; clear hSw; go_simp; try with_reducible rfl)
  simp only [Act.put, List.setIfInBounds_toArray, List.set_cons_zero, List.set_cons_succ]
  refine wpAnyH_take (i := 8) (v := ?_) (oi := { dst := some 23, op := _, type := _, pos := _, after := _, guard := none }) rfl (by kernel_rfl) (by kernel_rfl) (by kernel_rfl) (fun _ _ _ h => h) (Or.inl ⟨by kernel_rfl, ?_⟩) (by assumption) ?_
  case refine_2 => (intro w9 hSw; clear hSw; go_simp; try with_reducible rfl)
  simp only [Act.put, List.setIfInBounds_toArray, List.set_cons_zero, List.set_cons_succ]
  refine wpAnyH_take (i := 9) (v := ?_) (oi := { dst := some 24, op := _, type := _, pos := _, after := _, guard := none }) rfl (by kernel_rfl) (by kernel_rfl) (by kernel_rfl) (fun _ _ _ h => h) (Or.inl ⟨by kernel_rfl, ?_⟩) (by assumption) ?_
  case refine_2 => (intro w9 hSw; obtain ⟨_, zp, _, _⟩ := hSw; have q0 := zp.box.c 1 rfl; have q1 := zp.fam.cell (g := zb) (cap := cz) 3 rfl (by simp only [hLn]) hu1; have q2 := World.block_lt_of_cell? _ _ q1; clear zp; go_simp; try with_reducible rfl)
  simp only [Act.put, List.setIfInBounds_toArray, List.set_cons_zero, List.set_cons_succ]
  refine wpAnyH_take (i := 10) (v := ?_) (oi := { dst := some 25, op := _, type := _, pos := _, after := _, guard := none }) rfl (by kernel_rfl) (by kernel_rfl) (by kernel_rfl) (fun _ _ _ h => h) (Or.inl ⟨by kernel_rfl, ?_⟩) (by assumption) ?_
  case refine_2 => (intro w9 hSw; clear hSw; go_simp; try with_reducible rfl)
  simp only [Act.put, List.setIfInBounds_toArray, List.set_cons_zero, List.set_cons_succ]
  refine wpAnyH_take (i := 11) (v := ?_) (oi := { dst := some 26, op := _, type := _, pos := _, after := _, guard := none }) rfl (by kernel_rfl) (by kernel_rfl) (by kernel_rfl) (fun _ _ _ h => h) (Or.inl ⟨by kernel_rfl, ?_⟩) (by assumption) ?_
  case refine_2 => (intro w9 hSw; clear hSw; go_simp; try with_reducible rfl)
  simp only [Act.put, List.setIfInBounds_toArray, List.set_cons_zero, List.set_cons_succ]
  refine wpAnyH_take (i := 12) (v := ?_) (oi := { dst := some 27, op := _, type := _, pos := _, after := _, guard := none }) rfl (by kernel_rfl) (by kernel_rfl) (by kernel_rfl) (fun _ _ _ h => h) (Or.inl ⟨by kernel_rfl, ?_⟩) (by assumption) ?_
  case refine_2 => (intro w9 hSw; clear hSw; go_simp; try with_reducible rfl)
  simp only [Act.put, List.setIfInBounds_toArray, List.set_cons_zero, List.set_cons_succ]
  refine wpAnyH_take (i := 13) (v := ?_) (oi := { dst := some 28, op := _, type := _, pos := _, after := _, guard := none }) rfl (by kernel_rfl) (by kernel_rfl) (by kernel_rfl) (fun _ _ _ h => h) (Or.inl ⟨by kernel_rfl, ?_⟩) (by assumption) ?_
  case refine_2 => (intro w9 hSw; clear hSw; go_simp; try with_reducible rfl)
  simp only [Act.put, List.setIfInBounds_toArray, List.set_cons_zero, List.set_cons_succ]
  refine wpAnyH_take (i := 14) (v := ?_) (oi := { dst := some 29, op := _, type := _, pos := _, after := _, guard := none }) rfl (by kernel_rfl) (by kernel_rfl) (by kernel_rfl) (fun _ _ _ h => h) (Or.inl ⟨by kernel_rfl, ?_⟩) (by assumption) ?_
  case refine_2 => (intro w9 hSw; obtain ⟨_, zp, _, _⟩ := hSw; have q0 := zp.box.c 1 rfl; have q1 := zp.fam.cell (g := zb) (cap := cz) 3 rfl (by simp only [hLn]) hu1; have q2 := World.block_lt_of_cell? _ _ q1; clear zp; go_simp; try with_reducible rfl)
  simp only [Act.put, List.setIfInBounds_toArray, List.set_cons_zero, List.set_cons_succ]
  refine wpAnyH_take (i := 15) (v := ?_) (oi := { dst := some 30, op := _, type := _, pos := _, after := _, guard := none }) rfl (by kernel_rfl) (by kernel_rfl) (by kernel_rfl) (fun _ _ _ h => h) (Or.inl ⟨by kernel_rfl, ?_⟩) (by assumption) ?_
  case refine_2 => (intro w9 hSw; clear hSw; go_simp; try with_reducible rfl)
  simp only [Act.put, List.setIfInBounds_toArray, List.set_cons_zero, List.set_cons_succ]
  refine wpAnyH_take (i := 16) (v := ?_) (oi := { dst := some 31, op := _, type := _, pos := _, after := _, guard := none }) rfl (by kernel_rfl) (by kernel_rfl) (by kernel_rfl) (fun _ _ _ h => h) (Or.inl ⟨by kernel_rfl, ?_⟩) (by assumption) ?_
  case refine_2 => (intro w9 hSw; clear hSw; go_simp; try with_reducible rfl)
  simp only [Act.put, List.setIfInBounds_toArray, List.set_cons_zero, List.set_cons_succ]
  refine wpAnyH_done (by kernel_rfl) ?_ _
  have KK : Hid _ := hHeld
  clear hHeld
  have hz' : (z.2.length : Int) = 12 := by omega
  go_wp2_with fail
  go_ret
  exact ⟨rfl, KK.out.1⟩

set_option maxRecDepth 100000 in
set_option maxHeartbeats 1000000 in
theorem goOn_yes (n : Int) (a : Option Addr) (k c : Nat) (r : EraT) (w : World) (g m B : Nat) (S : PSt) (vr vl ve vz : Value) (vs : List Value) (V : World) (h : PM w g m B S vr vl ve vz vs V) (l : List ZnT') (z : ZnT') (hS : S.zones = l ++ [z]) (hl9 : l.length ≤ 100000) (hz : z.2.length ≠ 12) (hz9 : z.2.length ≤ 100000) (he9 : S.eras.length ≤ 100000)
    (RR : Hid (∀ W : World, Below V.heap.size V W → Calls Tryz.prog 27 #[.slice a k c] W fun e W' => e = .returned (.tuple #[.agg #[.int .i64 r.off, .string r.rl, .int .i64 r.sv, .string r.fm, .int .i64 r.u.y, .int .i64 r.u.mo, .int .i64 r.u.oa, .int .i64 r.u.ob, .int .i64 r.u.oc, .int .i64 r.u.ta, .int .u8 r.u.tz], .bool true]) ∧ Below W.heap.size W W')) :
    Calls Tryz.prog 16 #[.pointer (some ⟨g, 0, none⟩), .agg #[.int .i64 n, .slice a k c]] V fun e W' => e = .returned (.int .i64 0) ∧ ∃ ve' vz' vs', PM w g m B (addF S n r) vr vl ve' vz' vs' W' := by
  have B1 : Hid (Below V.heap.size V (V.alloc (.cells #[.int .i64 n, .slice a k c] 54))) := (Below.refl _ _).alloc (Nat.le_refl _) _
  have L1 : Hid (Bx (V.alloc (.cells #[.int .i64 n, .slice a k c] 54)) V.heap.size [.int .i64 n, .slice a k c]) := Bx.new V [.int .i64 n, .slice a k c] _
  go_enter Tryz.func16, Tryz.ntmps16
  go_wp2_with fail
  refine (RR.out _ B1.out).mono ?_
  rintro e W1 ⟨rfl, hb⟩
  have hB1 : Hid (Below V.heap.size V W1) := NBs hb
  have hL1 := L1.out.below hb
  obtain ⟨rb, hrb⟩ : ∃ rb, rb = W1.heap.size := ⟨_, rfl⟩
  obtain ⟨lb, hlb⟩ : ∃ lb, lb = V.heap.size := ⟨_, rfl⟩
  have hVrb : V.heap.size ≤ rb := by rw [hrb]; exact hB1.out.size
  obtain ⟨az, cz, hvz, hz1, hz2, hz3⟩ := own_rowP (h.fam.get 3 rfl)
  simp only at hvz hz1 hz3
  have hLn : S.zones.length = l.length + 1 := by rw [hS]; simp
  rw [hLn] at hvz hz1 hz3
  obtain ⟨zb, hzb, hzB⟩ := hz3 (by omega)
  subst hzb hvz
  clear hz3
  have hlen := h.len
  have hze : S.zones[l.length]? = some z := by rw [hS]; simp
  obtain ⟨v, hu0, hu1, hve⟩ := zoneXs_at _ _ _ _ hlen hze
  obtain ⟨s1, s2, s3, hv⟩ := own_sliceP (h.eraAt hze hve)
  subst hv
  have hs2 : s2 = z.2.length := by obtain ⟨_, _, q, _⟩ := own_rowP (h.eraAt hze hve); simp only [Value.slice.injEq] at q; exact q.2.1
  subst hs2
  have hwz : IntKind.i64.wrap (l.length : Int) = (l.length : Int) := by rw [IntKind.wrap_i64]; omega
  have hL0 : (0 : Int) ≤ (l.length : Int) := by omega
  have hL1' : (l.length : Int) < (l.length : Int) + 1 := by omega
  unfold maxLen at hz2
  have hL2 : (l.length : Int) + 1 ≤ 9223372036854775807 := by omega
  have E0 : Hid (Below V.heap.size V (W1.alloc (.cells #[.int .i64 r.off, .string r.rl, .int .i64 r.sv, .string r.fm, .int .i64 r.u.y, .int .i64 r.u.mo, .int .i64 r.u.oa, .int .i64 r.u.ob, .int .i64 r.u.oc, .int .i64 r.u.ta, .int .u8 r.u.tz] 73)) ∧ PM w g m B S vr vl ve (.slice (some ⟨zb, 0, none⟩) (l.length + 1) cz) vs (W1.alloc (.cells #[.int .i64 r.off, .string r.rl, .int .i64 r.sv, .string r.fm, .int .i64 r.u.y, .int .i64 r.u.mo, .int .i64 r.u.oa, .int .i64 r.u.ob, .int .i64 r.u.oc, .int .i64 r.u.ta, .int .u8 r.u.tz] 73)) ∧ Bx (W1.alloc (.cells #[.int .i64 r.off, .string r.rl, .int .i64 r.sv, .string r.fm, .int .i64 r.u.y, .int .i64 r.u.mo, .int .i64 r.u.oa, .int .i64 r.u.ob, .int .i64 r.u.oc, .int .i64 r.u.ta, .int .u8 r.u.tz] 73)) lb [.int .i64 n, .slice a k c] ∧ Bx (W1.alloc (.cells #[.int .i64 r.off, .string r.rl, .int .i64 r.sv, .string r.fm, .int .i64 r.u.y, .int .i64 r.u.mo, .int .i64 r.u.oa, .int .i64 r.u.ob, .int .i64 r.u.oc, .int .i64 r.u.ta, .int .u8 r.u.tz] 73)) rb r.cs) := ⟨hB1.out.alloc hB1.out.size _, h.below (hB1.out.alloc hB1.out.size _), by rw [hlb]; exact hL1.alloc _, by rw [hrb]; exact Bx.new W1 r.cs _⟩
  clear hb hB1 B1 hL1 L1
  go_upto_region 4 with fail
  refine gen_code (fun W => (Below V.heap.size V W ∧ PM w g m B S vr vl ve (.slice (some ⟨zb, 0, none⟩) (l.length + 1) cz) vs W ∧ Bx W lb [.int .i64 n, .slice a k c] ∧ Bx W rb r.cs)) E0.out ?_
  clear E0
  intro w1 hE
  have KK : Hid (Below V.heap.size V w1 ∧ PM w g m B S vr vl ve (.slice (some ⟨zb, 0, none⟩) (l.length + 1) cz) vs w1 ∧ Bx w1 lb [.int .i64 n, .slice a k c] ∧ Bx w1 rb r.cs) := hE
  clear hE
  rw [← hrb, ← hlb]
  clear hrb hlb
  go_wp2_with fail
  refine wp_region_held_drew (S := fun V' => (Below V.heap.size V V' ∧ PM w g m B S vr vl ve (.slice (some ⟨zb, 0, none⟩) (l.length + 1) cz) vs V' ∧ Bx V' lb [.int .i64 n, .slice a k c] ∧ Bx V' rb r.cs)) (by kernel_rfl) ⟨KK.out.1.drew, KK.out.2.1.drew, KK.out.2.2⟩ (fun hHeld => ?_)
  refine gen_any (fun V' => (Below V.heap.size V V' ∧ PM w g m B S vr vl ve (.slice (some ⟨zb, 0, none⟩) (l.length + 1) cz) vs V' ∧ Bx V' lb [.int .i64 n, .slice a k c] ∧ Bx V' rb r.cs)) hHeld ?_
  clear hHeld KK
  rintro w2 hHeld
  refine wpAnyH_take (i := 0) (v := ?_) (oi := { dst := some 15, op := _, type := _, pos := _, after := _, guard := none }) rfl (by kernel_rfl) (by kernel_rfl) (by kernel_rfl) (fun _ _ _ h => h) (Or.inl ⟨by kernel_rfl, ?_⟩) (by assumption) ?_
  case refine_2 => (intro w9 hSw; clear hSw; go_simp; try with_reducible rfl)
  simp only [Act.put, List.setIfInBounds_toArray, List.set_cons_zero, List.set_cons_succ]
  refine wpAnyH_take (i := 1) (v := ?_) (oi := { dst := some 16, op := _, type := _, pos := _, after := _, guard := none }) rfl (by kernel_rfl) (by kernel_rfl) (by kernel_rfl) (fun _ _ _ h => h) (Or.inl ⟨by kernel_rfl, ?_⟩) (by assumption) ?_
  case refine_2 => (intro w9 hSw; clear hSw; go_simp; try with_reducible rfl)
  simp only [Act.put, List.setIfInBounds_toArray, List.set_cons_zero, List.set_cons_succ]
  refine wpAnyH_take (i := 2) (v := ?_) (oi := { dst := some 17, op := _, type := _, pos := _, after := _, guard := none }) rfl (by kernel_rfl) (by kernel_rfl) (by kernel_rfl) (fun _ _ _ h => h) (Or.inl ⟨by kernel_rfl, ?_⟩) (by assumption) ?_
  case refine_2 => (intro w9 hSw; clear hSw; go_simp; try with_reducible rfl)
  simp only [Act.put, List.setIfInBounds_toArray, List.set_cons_zero, List.set_cons_succ]
  refine wpAnyH_take (i := 3) (v := ?_) (oi := { dst := some 18, op := _, type := _, pos := _, after := _, guard := none }) rfl (by kernel_rfl) (by kernel_rfl) (by kernel_rfl) (fun _ _ _ h => h) (Or.inl ⟨by kernel_rfl, ?_⟩) (by assumption) ?_
  case refine_2 => (intro w9 hSw; clear hSw; go_simp; try with_reducible rfl)
  simp only [Act.put, List.setIfInBounds_toArray, List.set_cons_zero, List.set_cons_succ]
  refine wpAnyH_take (i := 4) (v := ?_) (oi := { dst := some 19, op := _, type := _, pos := _, after := _, guard := none }) rfl (by kernel_rfl) (by kernel_rfl) (by kernel_rfl) (fun _ _ _ h => h) (Or.inl ⟨by kernel_rfl, ?_⟩) (by assumption) ?_
  case refine_2 => (intro w9 hSw; obtain ⟨_, zp, _, _⟩ := hSw; have q0 := zp.box.c 1 rfl; have q1 := zp.fam.cell (g := zb) (cap := cz) 3 rfl (by simp only [hLn]) hu1; have q2 := World.block_lt_of_cell? _ _ q1; clear zp; go_simp; try with_reducible rfl)
  simp only [Act.put, List.setIfInBounds_toArray, List.set_cons_zero, List.set_cons_succ]
  refine wpAnyH_take (i := 5) (v := ?_) (oi := { dst := some 20, op := _, type := _, pos := _, after := _, guard := none }) rfl (by kernel_rfl) (by kernel_rfl) (by kernel_rfl) (fun _ _ _ h => h) (Or.inl ⟨by kernel_rfl, ?_⟩) (by assumption) ?_
  case refine_2 => (intro w9 hSw; clear hSw; go_simp; try with_reducible rfl)
  simp only [Act.put, List.setIfInBounds_toArray, List.set_cons_zero, List.set_cons_succ]
  refine wpAnyH_take (i := 6) (v := ?_) (oi := { dst := some 21, op := _, type := _, pos := _, after := _, guard := none }) rfl (by kernel_rfl) (by kernel_rfl) (by kernel_rfl) (fun _ _ _ h => h) (Or.inl ⟨by kernel_rfl, ?_⟩) (by assumption) ?_
  case refine_2 => (intro w9 hSw; clear hSw; go_simp; try with_reducible rfl)
  simp only [Act.put, List.setIfInBounds_toArray, List.set_cons_zero, List.set_cons_succ]
  refine wpAnyH_take (i := 7) (v := ?_) (oi := { dst := some 22, op := _, type := _, pos := _, after := _, guard := none }) rfl (by kernel_rfl) (by kernel_rfl) (by kernel_rfl) (fun _ _ _ h => h) (Or.inl ⟨by kernel_rfl, ?_⟩) (by assumption) ?_
  case refine_2 => (intro w9 hSw; clear hSw; go_simp; try with_reducible rfl)
  simp only [Act.put, List.setIfInBounds_toArray, List.set_cons_zero, List.set_cons_succ]
  refine wpAnyH_take (i := 8) (v := ?_) (oi := { dst := some 23, op := _, type := _, pos := _, after := _, guard := none }) rfl (by kernel_rfl) (by kernel_rfl) (by kernel_rfl) (fun _ _ _ h => h) (Or.inl ⟨by kernel_rfl, ?_⟩) (by assumption) ?_
  case refine_2 => (intro w9 hSw; clear hSw; go_simp; try with_reducible rfl)
  simp only [Act.put, List.setIfInBounds_toArray, List.set_cons_zero, List.set_cons_succ]
  refine wpAnyH_take (i := 9) (v := ?_) (oi := { dst := some 24, op := _, type := _, pos := _, after := _, guard := none }) rfl (by kernel_rfl) (by kernel_rfl) (by kernel_rfl) (fun _ _ _ h => h) (Or.inl ⟨by kernel_rfl, ?_⟩) (by assumption) ?_
  case refine_2 => (intro w9 hSw; obtain ⟨_, zp, _, _⟩ := hSw; have q0 := zp.box.c 1 rfl; have q1 := zp.fam.cell (g := zb) (cap := cz) 3 rfl (by simp only [hLn]) hu1; have q2 := World.block_lt_of_cell? _ _ q1; clear zp; go_simp; try with_reducible rfl)
  simp only [Act.put, List.setIfInBounds_toArray, List.set_cons_zero, List.set_cons_succ]
  refine wpAnyH_take (i := 10) (v := ?_) (oi := { dst := some 25, op := _, type := _, pos := _, after := _, guard := none }) rfl (by kernel_rfl) (by kernel_rfl) (by kernel_rfl) (fun _ _ _ h => h) (Or.inl ⟨by kernel_rfl, ?_⟩) (by assumption) ?_
  case refine_2 => (intro w9 hSw; clear hSw; go_simp; try with_reducible rfl)
  simp only [Act.put, List.setIfInBounds_toArray, List.set_cons_zero, List.set_cons_succ]
  refine wpAnyH_take (i := 11) (v := ?_) (oi := { dst := some 26, op := _, type := _, pos := _, after := _, guard := none }) rfl (by kernel_rfl) (by kernel_rfl) (by kernel_rfl) (fun _ _ _ h => h) (Or.inl ⟨by kernel_rfl, ?_⟩) (by assumption) ?_
  case refine_2 => (intro w9 hSw; clear hSw; go_simp; try with_reducible rfl)
  simp only [Act.put, List.setIfInBounds_toArray, List.set_cons_zero, List.set_cons_succ]
  refine wpAnyH_take (i := 12) (v := ?_) (oi := { dst := some 27, op := _, type := _, pos := _, after := _, guard := none }) rfl (by kernel_rfl) (by kernel_rfl) (by kernel_rfl) (fun _ _ _ h => h) (Or.inl ⟨by kernel_rfl, ?_⟩) (by assumption) ?_
  case refine_2 => (intro w9 hSw; clear hSw; go_simp; try with_reducible rfl)
  simp only [Act.put, List.setIfInBounds_toArray, List.set_cons_zero, List.set_cons_succ]
  refine wpAnyH_take (i := 13) (v := ?_) (oi := { dst := some 28, op := _, type := _, pos := _, after := _, guard := none }) rfl (by kernel_rfl) (by kernel_rfl) (by kernel_rfl) (fun _ _ _ h => h) (Or.inl ⟨by kernel_rfl, ?_⟩) (by assumption) ?_
  case refine_2 => (intro w9 hSw; clear hSw; go_simp; try with_reducible rfl)
  simp only [Act.put, List.setIfInBounds_toArray, List.set_cons_zero, List.set_cons_succ]
  refine wpAnyH_take (i := 14) (v := ?_) (oi := { dst := some 29, op := _, type := _, pos := _, after := _, guard := none }) rfl (by kernel_rfl) (by kernel_rfl) (by kernel_rfl) (fun _ _ _ h => h) (Or.inl ⟨by kernel_rfl, ?_⟩) (by assumption) ?_
  case refine_2 => (intro w9 hSw; obtain ⟨_, zp, _, _⟩ := hSw; have q0 := zp.box.c 1 rfl; have q1 := zp.fam.cell (g := zb) (cap := cz) 3 rfl (by simp only [hLn]) hu1; have q2 := World.block_lt_of_cell? _ _ q1; clear zp; go_simp; try with_reducible rfl)
  simp only [Act.put, List.setIfInBounds_toArray, List.set_cons_zero, List.set_cons_succ]
  refine wpAnyH_take (i := 15) (v := ?_) (oi := { dst := some 30, op := _, type := _, pos := _, after := _, guard := none }) rfl (by kernel_rfl) (by kernel_rfl) (by kernel_rfl) (fun _ _ _ h => h) (Or.inl ⟨by kernel_rfl, ?_⟩) (by assumption) ?_
  case refine_2 => (intro w9 hSw; clear hSw; go_simp; try with_reducible rfl)
  simp only [Act.put, List.setIfInBounds_toArray, List.set_cons_zero, List.set_cons_succ]
  refine wpAnyH_take (i := 16) (v := ?_) (oi := { dst := some 31, op := _, type := _, pos := _, after := _, guard := none }) rfl (by kernel_rfl) (by kernel_rfl) (by kernel_rfl) (fun _ _ _ h => h) (Or.inl ⟨by kernel_rfl, ?_⟩) (by assumption) ?_
  case refine_2 => (intro w9 hSw; clear hSw; go_simp; try with_reducible rfl)
  simp only [Act.put, List.setIfInBounds_toArray, List.set_cons_zero, List.set_cons_succ]
  refine wpAnyH_done (by kernel_rfl) ?_ _
  have KK : Hid _ := hHeld
  clear hHeld
  have hz' : ¬ (z.2.length : Int) = 12 := by omega
  have y0 := KK.out.2.2.1.c 0 rfl
  have hlb5 := KK.out.2.2.1.1
  have e0 := KK.out.2.2.2.c 0 rfl
  have e1 := KK.out.2.2.2.c 1 rfl
  have e2 := KK.out.2.2.2.c 2 rfl
  have e3 := KK.out.2.2.2.c 3 rfl
  have e4 := KK.out.2.2.2.c 4 rfl
  have e5 := KK.out.2.2.2.c 5 rfl
  have e6 := KK.out.2.2.2.c 6 rfl
  have e7 := KK.out.2.2.2.c 7 rfl
  have e8 := KK.out.2.2.2.c 8 rfl
  have e9 := KK.out.2.2.2.c 9 rfl
  have e10 := KK.out.2.2.2.c 10 rfl
  have hrb5 := KK.out.2.2.2.1
  have HS9 : Hid (S.zones = l ++ [z]) := hS
  clear hlen hze hu0 hu1 hve hwz hL0 hL1' hL2 hLn hS h hz2 hz1
  go_wp2_with fail
  refine (padd_any w g m B S vr vl ve _ _ _ KK.out.2.1 n r l z HS9.out hl9 hz9 he9).mono ?_
  rintro e w6 ⟨rfl, ve', vs', hP⟩
  have HP : Hid _ := hP
  clear hP
  go_wp2_with fail
  go_ret
  exact ⟨rfl, _, _, _, HP.out⟩

end Go.Proofs.YthhpdjjfbfkgiaaGreatDoor
/- Contracts put together: takeRule, takeLink, takeZone, goOn of src's parser, over what the fields say. -/
namespace Go.Proofs.YthhpdjjfbfkgiaaGreatDoor
open Go.RowKit
set_option linter.unusedVariables false

/-- what a line's taking leaves: an error, or the parser with the line taken. -/
def TkO (w : World) (g m B : Nat) (V : World) (e : Ending) (W' : World) : Sum Int PSt → Prop
  | .inl c => e = .returned (.int .i64 c) ∧ Below V.heap.size V W'
  | .inr S' => e = .returned (.int .i64 0) ∧ ∃ vr' vl' ve' vz' vs', PM w g m B S' vr' vl' ve' vz' vs' W'
theorem TkO.val {w : World} {g m B : Nat} {V : World} {e : Ending} {W' : World} {r : Sum Int PSt} (h : TkO w g m B V e W' r) : ∃ k, e = .returned (.int .i64 k) := by
  cases r with
  | inl c => exact ⟨c, h.1⟩
  | inr S => exact ⟨0, h.1⟩
theorem TkO.up {w : World} {g m B : Nat} {V V2 : World} {e : Ending} {W' : World} {r : Sum Int PSt} (h : TkO w g m B V2 e W' r) (hb : Below V.heap.size V V2) : TkO w g m B V e W' r := by
  cases r with
  | inl c => exact ⟨h.1, hb.trans (h.2.mono hb.size)⟩
  | inr S => exact h
theorem linkF_few {R : List ByteArray} (hF : ∀ x ∈ R, Few x) {r : ByteArray × ByteArray} (hr : linkF R = some r) : r.2.size ≤ maxLen := by
  match R, hr with
  | [a, b], hr =>
    have hb := hF b (by simp)
    simp only [linkF] at hr
    split at hr
    · cases hr; exact hb.max
    · cases hr
  | [], hr => cases hr
  | [a], hr => cases hr
  | a :: b :: d :: l, hr => cases hr
theorem zoneF_few {R : List ByteArray} (hF : ∀ x ∈ R, Few x) {r : ByteArray × EraT} (hr : zoneF R = some r) : r.1.size ≤ maxLen := by
  match R, hr with
  | [], hr => cases hr
  | a :: l, hr =>
    have hb := hF a (by simp)
    simp only [zoneF] at hr
    split at hr
    · cases hr
    · split at hr
      · cases hr; exact hb.max
      · cases hr
/-- what holds of a parser's state behind N lines. -/
structure OkS (S : PSt) (N : Nat) : Prop where
  rules : S.rules.length ≤ N
  zones : S.zones.length ≤ N
  links : S.links.length ≤ N
  eras : S.eras.length ≤ N
  cnt : ∀ k, 0 ≤ S.cnt k ∧ S.cnt k ≤ 16
  zn : ∀ z ∈ S.zones, z.1.size ≤ maxLen
  ze : ∀ z ∈ S.zones, z.2.length ≤ N
  ln : ∀ l ∈ S.links, l.2.size ≤ maxLen
  op : S.op = true → ∃ l z, S.zones = l ++ [z]

section
variable (w : World) (g m B : Nat) (S : PSt) (vr vl ve vz : Value) (vs : List Value) (V : World) (h : PM w g m B S vr vl ve vz vs V) (N : Nat) (hO : OkS S N) (hN : N ≤ 1000)
  (n : Int) (fb fo c : Nat) (f : ByteArray) (R : List ByteArray) (hF : ∀ x ∈ R, Few x) (hg : fb < V.heap.size) (hc : R.length + 1 ≤ c) (H : FdAt V fb fo (f :: R))
include h hO hN hF hg hc H

theorem takeRule_all : Calls Tryz.prog 18 #[.pointer (some ⟨g, 0, none⟩), .agg #[.int .i64 n, .slice (some ⟨fb, fo, none⟩) (R.length + 1) c]] V fun e W' => TkO w g m B V e W' (tkRule S R) := by
  obtain ⟨r, b, hr, HR⟩ := readRule_any R hF
  have RR : ∀ W : World, Below V.heap.size V W → _ := fun W hb => HR _ (c - 1) W (by omega) ((H.cut hg 1 c hc rfl).below hb)
  unfold tkRule
  rw [hr]
  cases b with
  | false => exact (takeRule_no n fb fo R.length c r _ rfl hc g V RR).mono fun e W' q => q
  | true =>
    simp only [if_pos]
    by_cases hz : S.cnt r.nm = 16 ∨ (S.cnt r.nm = 0 ∧ S.dn = 16)
    · rw [if_pos hz]; exact (takeRule_size n fb fo R.length c r _ rfl hc w g m B S vr vl ve vz vs V h hz RR).mono fun e W' q => q
    · rw [if_neg hz]
      have := hO.rules
      refine (takeRule_yes n fb fo R.length c r _ rfl hc w g m B S vr vl ve vz vs V h hz (hO.cnt _).1 (hO.cnt _).2 (by omega) RR).mono ?_
      rintro e W' ⟨q1, v', q2⟩
      exact ⟨q1, v', vl, ve, vz, vs, q2⟩

theorem takeLink_all : Calls Tryz.prog 20 #[.pointer (some ⟨g, 0, none⟩), .agg #[.int .i64 n, .slice (some ⟨fb, fo, none⟩) (R.length + 1) c]] V fun e W' => TkO w g m B V e W' (tkLink S R) := by
  obtain ⟨r, b, hr, HR⟩ := readLink_any R hF
  have RR : ∀ W : World, Below V.heap.size V W → _ := fun W hb => HR _ (c - 1) W (by omega) ((H.cut hg 1 c hc rfl).below hb)
  unfold tkLink
  rw [hr]
  cases b with
  | false => exact (takeLink_no n fb fo R.length c r _ rfl hc g V RR).mono fun e W' q => q
  | true =>
    have hs : r.2.size ≤ maxLen := linkF_few hF hr
    simp only [if_pos]
    by_cases hz : S.links.length = 16
    · rw [if_pos hz]; exact (takeLink_size n fb fo R.length c r _ rfl hc w g m B S vr vl ve vz vs V h hz RR).mono fun e W' q => q
    · rw [if_neg hz]
      have := hO.links
      by_cases ht : takenB S r.2 = true
      · rw [if_pos ht]; exact (takeLink_name n fb fo R.length c r _ rfl hc w g m B S vr vl ve vz vs V h hz hs hO.zn hO.ln ht RR).mono fun e W' q => q
      · rw [if_neg ht]
        refine (takeLink_yes n fb fo R.length c r _ rfl hc w g m B S vr vl ve vz vs V h hz (by omega) hs hO.zn hO.ln (by simpa using ht) RR).mono ?_
        rintro e W' ⟨q1, v', q2⟩
        exact ⟨q1, vr, v', ve, vz, vs, q2⟩

theorem takeZone_all : Calls Tryz.prog 19 #[.pointer (some ⟨g, 0, none⟩), .agg #[.int .i64 n, .slice (some ⟨fb, fo, none⟩) (R.length + 1) c]] V fun e W' => TkO w g m B V e W' (tkZone S n R) := by
  obtain ⟨nm, r, b, hr, HR⟩ := readZone_any R hF
  have RR : ∀ W : World, Below V.heap.size V W → _ := fun W hb => HR _ (c - 1) W (by omega) ((H.cut hg 1 c hc rfl).below hb)
  unfold tkZone
  rw [hr]
  cases b with
  | false => exact (takeZone_no n fb fo R.length c nm r _ rfl hc g V RR).mono fun e W' q => q
  | true =>
    have hs : nm.size ≤ maxLen := zoneF_few hF hr
    simp only [if_pos]
    by_cases hz : S.zones.length = 16
    · rw [if_pos hz]; exact (takeZone_size n fb fo R.length c nm r _ rfl hc w g m B S vr vl ve vz vs V h hz RR).mono fun e W' q => q
    · rw [if_neg hz]
      have := hO.zones
      have := hO.eras
      by_cases ht : takenB S nm = true
      · rw [if_pos ht]; exact (takeZone_name n fb fo R.length c nm r _ rfl hc w g m B S vr vl ve vz vs V h hz hs hO.zn hO.ln ht RR).mono fun e W' q => q
      · rw [if_neg ht]
        refine (takeZone_yes n fb fo R.length c nm r _ rfl hc w g m B S vr vl ve vz vs V h hz (by omega) (by omega) hs hO.zn hO.ln (by simpa using ht) RR).mono ?_
        rintro e W' ⟨q1, ve', vz', vs', q2⟩
        exact ⟨q1, vr, vl, ve', vz', vs', q2⟩

theorem goOn_all (hf : Few f) (hop : S.op = true) : Calls Tryz.prog 16 #[.pointer (some ⟨g, 0, none⟩), .agg #[.int .i64 n, .slice (some ⟨fb, fo, none⟩) (R.length + 1) c]] V fun e W' => TkO w g m B V e W' (tkOn S n (f :: R)) := by
  obtain ⟨r, b, hr, hz0, HR⟩ := readEra_any (f :: R) (by simp only [List.forall_mem_cons]; exact ⟨hf, hF⟩)
  have RR : ∀ W : World, Below V.heap.size V W → _ := fun W hb => HR (some ⟨fb, fo, none⟩) c W hc (fun _ => ⟨fb, fo, rfl, Nat.lt_of_lt_of_le hg hb.size, H.below hg hb⟩)
  obtain ⟨l, z, hS⟩ := hO.op hop
  unfold tkOn
  rw [hr]
  cases b with
  | false => exact (goOn_no n (some ⟨fb, fo, none⟩) (R.length + 1) c r g V RR).mono fun e W' q => q
  | true =>
    simp only [if_pos]
    have hl : (S.zones.getLast?.map (·.2.length)).getD 0 = z.2.length := by rw [hS]; simp
    rw [hl]
    have e1 := hO.zones
    have e2 := hO.eras
    have e3 := hO.ze z (by rw [hS]; simp)
    rw [hS, List.length_append, List.length_singleton] at e1
    by_cases hz : z.2.length = 12
    · rw [if_pos hz]; exact (goOn_size n (some ⟨fb, fo, none⟩) (R.length + 1) c r w g m B S vr vl ve vz vs V h l z hS (by omega) hz RR).mono fun e W' q => q
    · rw [if_neg hz]
      refine (goOn_yes n (some ⟨fb, fo, none⟩) (R.length + 1) c r w g m B S vr vl ve vz vs V h l z hS (by omega) hz (by omega) (by omega) RR).mono ?_
      rintro e W' ⟨q1, ve', vz', vs', q2⟩
      exact ⟨q1, vr, vl, ve', vz', vs', q2⟩
end

end Go.Proofs.YthhpdjjfbfkgiaaGreatDoor
/- Contracts of the reference's Lower, Same, Short, Month and Day. -/
namespace Go.Proofs.YthhpdjjfbfkgiaaGreatDoor.Wrd
open Go.RowKit
set_option linter.unusedVariables false

end Go.Proofs.YthhpdjjfbfkgiaaGreatDoor.Wrd
/- Contracts of Known and Short, the program's and the reference's, at any slice of texts. -/
namespace Go.Proofs.YthhpdjjfbfkgiaaGreatDoor.Wrd
open Go.RowKit
set_option linter.unusedVariables false

/-- texts in memory, from an address on. -/
def TxtA (w : World) (a : Addr) (L : List ByteArray) : Prop := True ∧ ∀ j t, L[j]? = some t → w.cell? (a.add j) = some (.string t)
theorem TxtA.below {w w1 : World} {a : Addr} {L : List ByteArray} (h : TxtA w a L) (hb : Below w.heap.size w w1) : TxtA w1 a L :=
  ⟨trivial, fun j t hj => (hb.cell (World.block_lt_of_cell? w _ (h.2 j t hj))).trans (h.2 j t hj)⟩

set_option maxRecDepth 100000 in
set_option maxHeartbeats 2000000 in
theorem knownA_any (s : ByteArray) (L : List ByteArray) (a : Addr) (cap : Nat) (w : World) (hs : s.size ≤ maxLen) (hL : ∀ (j : Nat) (t : ByteArray), L[j]? = some t → t.size ≤ maxLen) (hcap : L.length ≤ cap) (hcap2 : cap ≤ maxLen) (hT : TxtA w a L) :
    Calls Tryz.prog 17 #[.string s, .slice (some a) L.length cap] w fun e w' => e = .returned (.int .i64 (knownB s L)) ∧ Below w.heap.size w w' := by
  have hs' := hs
  unfold maxLen at hs hcap2
  obtain ⟨G, hG⟩ : ∃ G, knownB s L = G := ⟨_, rfl⟩
  have HG : Hid (findF (fun t => sameB s t) 0 (L.drop 0) = G) := by show _ = _; rw [List.drop_zero, ← hG]; rfl
  rw [hG]
  clear hG
  go_enter Tryz.func17, Tryz.ntmps17
  go_wp2_with fail
  refine (lower_any s hs' _).mono ?_
  rintro e w1 ⟨rfl, B1⟩
  have T1 := hT.below B1
  have HB1 : Hid (Below w.heap.size w w1) := B1
  have HT1 : Hid (TxtA w1 a L) := T1
  clear B1 T1 hT
  go_wp2_with fail
  go_loopw [12] (fun k wr => ∃ i : Nat, i ≤ L.length ∧ k = .int .i64 (i : Int) ∧ Below w.heap.size w wr ∧ TxtA wr a L ∧ Hid (findF (fun t => sameB s t) i (L.drop i) = G)) (fun k _ => L.length - (intOf k).toNat)
  case atStart => exact ⟨0, Nat.zero_le _, rfl, HB1.out, HT1.out, HG⟩
  case round =>
    obtain ⟨i, hi, rfl, B, T, HS⟩ := hrel
    have HB : Hid (Below w.heap.size w wr) := B
    have HT : Hid (TxtA wr a L) := T
    clear HB1 HT1
    by_cases hlt : i < L.length
    · have hlt' : (i : Int) < (L.length : Int) := by omega
      obtain ⟨t, ht⟩ : ∃ t, L[i]? = some t := ⟨L[i]'hlt, List.getElem?_eq_getElem hlt⟩
      have hc : wr.cell? (a.add i) = some (.string t) := T.2 i t ht
      have hts := hL i t ht
      have HE : Hid ((if sameB s t = true then (i : Int) else findF (fun t => sameB s t) (i + 1) (L.drop (i + 1))) = G) := by show _ = _; rw [← HS.out, findF_step ht]
      have i0 : (0 : Int) ≤ (i : Int) := by omega
      have i1 : (i : Int) < 9223372036854775807 := by omega
      clear HS B T ht
      go_wp2_with fail
      refine (lower_any t hts _).mono ?_
      rintro e w2 ⟨rfl, b2⟩
      have HB2 : Hid (Below w.heap.size w w2) := HB.out.trans (b2.mono HB.out.size)
      have HT2 : Hid (TxtA w2 a L) := HT.out.below b2
      clear b2 HB HT hc
      have hse : ((lowB t).toList == (lowB s).toList) = sameB s t := by rw [toList_eq]; unfold sameB; rw [Bool.eq_iff_iff, decide_eq_true_eq, decide_eq_true_eq]; exact ⟨fun h => h.symm, fun h => h.symm⟩
      cases hq : sameB s t with
      | true =>
        have e1 : G = (i : Int) := by rw [← HE.out, if_pos hq]
        rw [hq] at hse
        subst e1
        clear hq
        go_wp2_with fail
        go_ret
        exact ⟨rfl, HB2.out⟩
      | false =>
        have HF : Hid (findF (fun t => sameB s t) (i + 1) (L.drop (i + 1)) = G) := by show _ = _; rw [← HE.out, if_neg (by rw [hq]; decide)]
        rw [hq] at hse
        clear hq
        go_wp2_with fail
        go_roundw
        case rel => exact ⟨i + 1, by omega, by go_num, HB2.out, HT2.out, HF⟩
        case measure => simp [intOf]; omega
    · have hlt' : ¬ (i : Int) < (L.length : Int) := by omega
      have e1 : G = -1 := by rw [← HS.out, findF_end hlt]
      subst e1
      clear B T
      go_wp2_with fail
      go_ret
      exact ⟨rfl, HB.out⟩

end Go.Proofs.YthhpdjjfbfkgiaaGreatDoor.Wrd
