import Derived.Test.YtcgcljfdfimfgaaDoorR4
/- Contract: blob's half, by either machine. -/
namespace Go.Proofs.YtcgcljfdfimfgaaDoor
open Go.RowKit Sr
set_option linter.unusedVariables false

set_option maxRecDepth 100000 in
set_option maxHeartbeats 8000000 in
theorem half_any {bb pb : Nat} (m : PM bb pb) (W : World) (σ σ1 σ2 σ3 σ4 σ5 σ6 σ7 σ8 : List UInt8) (b i : Nat) (cs : Array Value) (ty : TypeId) (mo k d n s v : Int) (z : UInt8) (t : ByteArray) (hS : Hid (m.St W σ)) (hblk : Hid (W.heap[b]? = some (.cells cs ty (0, 0)))) (hb1 : b ≠ bb) (hb2 : b ≠ pb) (h5 : ty ≠ 5) (hlw : m.lw ≤ b) (hlo : m.lo ≤ b)
    (h0 : cs[i]? = some (.int .i64 mo)) (h1 : cs[i + 1]? = some (.int .i64 k)) (h2 : cs[i + 2]? = some (.int .i64 d)) (h3 : cs[i + 3]? = some (.int .i64 n)) (h4 : cs[i + 4]? = some (.int .i64 s)) (h5' : cs[i + 5]? = some (.int .u8 (z.toNat : Int))) (h6 : cs[i + 6]? = some (.int .i64 v)) (h7 : cs[i + 7]? = some (.string t))
    (HE1 : Hid ((m.num σ mo).1 = σ1)) (HE2 : Hid ((m.num σ1 k).1 = σ2)) (HE3 : Hid ((m.num σ2 d).1 = σ3)) (HE4 : Hid ((m.num σ3 n).1 = σ4)) (HE5 : Hid ((m.num σ4 s).1 = σ5)) (HE6 : Hid ((m.oct σ5 z).1 = σ6)) (HE7 : Hid ((m.num σ6 v).1 = σ7)) (HE8 : Hid ((m.text σ7 t).1 = σ8)) (HK : Hid (m.ok σ8)) :
    Calls Tryd.prog 29 #[.agg m.agg, .pointer (some ⟨b, i, none⟩)] W fun e W' => (∃ v, e = .returned v) ∧ m.St W' σ8 ∧
      W'.heap[b]? = some (.cells ((((((((cs.setIfInBounds i (.int .i64 (m.num σ mo).2)).setIfInBounds (i + 1) (.int .i64 (m.num σ1 k).2)).setIfInBounds (i + 2) (.int .i64 (m.num σ2 d).2)).setIfInBounds (i + 3) (.int .i64 (m.num σ3 n).2)).setIfInBounds (i + 4) (.int .i64 (m.num σ4 s).2)).setIfInBounds (i + 5) (.int .u8 ((m.oct σ5 z).2.toNat : Int))).setIfInBounds (i + 6) (.int .i64 (m.num σ6 v).2)).setIfInBounds (i + 7) (.string (m.text σ7 t).2)) ty (0, 0)) ∧ KT2 bb b W W' := by
  have K8 : m.ok (m.text σ7 t).1 := by rw [HE8.out]; exact HK.out
  have K7 : m.ok (m.num σ6 v).1 := by rw [HE7.out]; exact m.bT _ _ K8
  have K6 : m.ok (m.oct σ5 z).1 := by rw [HE6.out]; exact m.bN _ _ K7
  have K5 : m.ok (m.num σ4 s).1 := by rw [HE5.out]; exact m.bO _ _ K6
  have K4 : m.ok (m.num σ3 n).1 := by rw [HE4.out]; exact m.bN _ _ K5
  have K3 : m.ok (m.num σ2 d).1 := by rw [HE3.out]; exact m.bN _ _ K4
  have K2 : m.ok (m.num σ1 k).1 := by rw [HE2.out]; exact m.bN _ _ K3
  have K1 : m.ok (m.num σ mo).1 := by rw [HE1.out]; exact m.bN _ _ K2
  have e1 := m.eN
  have e2 := m.eO
  have e3 := m.eT
  obtain ⟨q, hq⟩ : ∃ q, W.heap.size = q := ⟨_, rfl⟩
  have hq1 : q ≠ bb := by have := (m.lt _ _ hS.out).1; omega
  have hq2 : q ≠ b := by have := (Array.getElem?_eq_some_iff.1 hblk.out).1; omega
  have P0 : Hid (PS m W q b ty (W.alloc (.cells m.agg 63)) σ cs) := by
    have hb := (Below.refl _ W).alloc (Nat.le_refl _) (.cells m.agg 63)
    exact ⟨m.below _ _ _ hS.out hb, blk_below hb hblk.out, by rw [← hq]; exact World.alloc_heap_new W _, KT2.of_below hb⟩
  clear hS hblk HK
  go_enter Tryd.func29, Tryd.ntmps29
  go_wp2_with fail
  clear hq
  refine gen_code (fun w1 => PS m W q b ty w1 σ cs) P0.out ?_
  clear P0
  rintro w1 P0
  have P0 : Hid (PS m W q b ty w1 σ cs) := P0
  refine wp_region_held_drew (S := PB q m.agg) (by kernel_rfl) (P0.out.mv (below_drew1 _)).box (fun hHeld => ?_)
  have P0d : Hid (PS m W q b ty w1.drew _ _) := P0.out.mv (below_drew1 w1)
  refine wpAnyH_take (i := 0) (v := ?_) (oi := { dst := some 5, op := _, type := _, pos := _, after := _, guard := none }) rfl (by kernel_rfl) (by kernel_rfl) (by kernel_rfl) (fun _ _ _ h => h) (Or.inl ⟨by kernel_rfl, ?_⟩) (by assumption) ?_
  case refine_2 => (intro w9 hSw; clear hSw; go_simp; try with_reducible rfl)
  simp only [Act.put, List.setIfInBounds_toArray, List.set_cons_zero, List.set_cons_succ]
  refine wpAnyH_take (i := 1) (v := ?_) (oi := { dst := some 6, op := _, type := _, pos := _, after := _, guard := none }) rfl (by kernel_rfl) (by kernel_rfl) (by kernel_rfl) (fun _ _ _ h => h) (Or.inl ⟨by kernel_rfl, ?_⟩) (by assumption) ?_
  case refine_2 => (intro w9 hSw; obtain ⟨z0, z1, z2, z3⟩ := PB.c hSw; go_simp; try with_reducible rfl)
  simp only [Act.put, List.setIfInBounds_toArray, List.set_cons_zero, List.set_cons_succ]
  refine wpAnyH_take (i := 2) (v := ?_) (oi := { dst := some 7, op := _, type := _, pos := _, after := _, guard := none }) rfl (by kernel_rfl) (by kernel_rfl) (by kernel_rfl) (fun _ _ _ h => h) (Or.inl ⟨by kernel_rfl, ?_⟩) (by assumption) ?_
  case refine_2 => (intro w9 hSw; clear hSw; go_simp; try with_reducible rfl)
  simp only [Act.put, List.setIfInBounds_toArray, List.set_cons_zero, List.set_cons_succ]
  refine wpAnyH_take (i := 3) (v := ?_) (oi := { dst := some 8, op := _, type := _, pos := _, after := _, guard := none }) rfl (by kernel_rfl) (by kernel_rfl) (by kernel_rfl) (fun _ _ _ h => h) (Or.inl ⟨by kernel_rfl, ?_⟩) (by assumption) ?_
  case refine_2 => (intro w9 hSw; clear hSw; go_simp; try with_reducible rfl)
  simp only [Act.put, List.setIfInBounds_toArray, List.set_cons_zero, List.set_cons_succ]
  refine wpAnyH_take (i := 4) (v := ?_) (oi := { dst := some 9, op := _, type := _, pos := _, after := _, guard := none }) rfl (by kernel_rfl) (by kernel_rfl) (by kernel_rfl) (fun _ _ _ h => h) (Or.inl ⟨by kernel_rfl, ?_⟩) (by assumption) ?_
  case refine_2 => (intro w9 hSw; clear hSw; go_simp; try with_reducible rfl)
  simp only [Act.put, List.setIfInBounds_toArray, List.set_cons_zero, List.set_cons_succ]
  refine wpAnyH_ready (rs := [5]) (by kernel_rfl) (by simp) (AllReadyH.cons (o := { dst := some 10, op := _, type := _, pos := _, after := _, guard := none }) rfl (fun K hK => ?_) AllReadyH.nil)
  go_simp
  refine (m.hN _ _ b i _ ty mo P0d.out.st K1 P0d.out.blk hb1 hb2 h5 hlw (h0)).mono ?_
  rintro e v1 ⟨⟨r1, rfl⟩, hst, hblk, hk2⟩
  have P1 : Hid (PS m W q b ty v1 σ1 _) := ⟨by have h := hst; rw [HE1.out] at h; exact h, hblk, hk2.blk P0d.out.box hq1 hq2 (by decide), P0d.out.kt.trans hk2⟩
  refine hK.out _ _ P1.out.box (fun hHeld => ?_)
  clear hK K hHeld hst hblk hk2 P0 P0d
  refine wpAnyH_done (by kernel_rfl) ?_ _
  have c1 := cell_of P1.out.blk (i := i + 1) (v := .int .i64 k) (by simp [h1])
  obtain ⟨z0, z1, z2, z3⟩ := PB.c P1.out.box
  have hlt : q < v1.heap.size := (Array.getElem?_eq_some_iff.1 P1.out.box).1
  go_wp2_with fail
  have hbc : Below v1.heap.size v1 (v1.alloc (.cells #[.int .i64 k] 2)) := (Below.refl _ v1).alloc (Nat.le_refl _) _
  have Pc : Hid (PS m W q b ty (v1.alloc (.cells #[.int .i64 k] 2)) σ1 _) := P1.out.mv hbc
  obtain ⟨cb, hcb⟩ : ∃ cb, v1.heap.size = cb := ⟨_, rfl⟩
  rw [hcb]
  have hcb1 : cb ≠ bb := by have := (m.lt _ _ P1.out.st).1; omega
  have hcb2 : cb ≠ pb := by have := (m.lt _ _ P1.out.st).2; omega
  have hcb3 : cb ≠ b := by have := (Array.getElem?_eq_some_iff.1 P1.out.blk).1; omega
  have hcb4 : cb ≠ q := by have := (Array.getElem?_eq_some_iff.1 P1.out.box).1; omega
  have hcbk : (v1.alloc (.cells #[.int .i64 k] 2)).heap[cb]? = some (.cells #[.int .i64 k] 2 (0, 0)) := by rw [← hcb]; exact World.alloc_heap_new v1 _
  refine (m.hN _ _ cb 0 _ 2 k Pc.out.st K2 hcbk hcb1 hcb2 (by decide) (by have := m.le _ _ P1.out.st; omega) rfl).mono ?_
  rintro e va ⟨⟨ra, rfl⟩, hst, hblk, hk2⟩
  have Pa : Hid (PS m W q b ty va σ2 _) := ⟨by have h := hst; rw [HE2.out] at h; exact h, hk2.blk Pc.out.blk hb1 hcb3.symm h5, hk2.blk Pc.out.box hq1 hcb4.symm (by decide), Pc.out.kt.side hk2 (by have := P1.out.kt.1; omega)⟩
  have cc : va.cell? ⟨cb, 0, none⟩ = some (.int .i64 (m.num σ1 k).2) := cell_of hblk (by simp)
  have ck := cell_of Pa.out.blk (i := i + 1) (v := .int .i64 k) (by simp [h1])
  have fk := fz_of (i := i + 1) Pa.out.blk
  clear hst hblk hk2 Pc P1 hbc hcbk
  have P2 : Hid (PS m W q b ty (va.setCell ⟨b, i + 1, none⟩ (.int .i64 (m.num σ1 k).2)) σ2 _) := ⟨m.set _ _ b (i + 1) _ ty _ Pa.out.st Pa.out.blk hlo hb1 hb2 h5, setCell_heap _ Pa.out.blk, (Below.heap_setCell _ _ _ q (by simpa using hq2)).trans Pa.out.box, kt_wr2 _ Pa.out.kt⟩
  clear Pa
  obtain ⟨KV, hKV⟩ : ∃ KV, (m.num σ1 k).2 = KV := ⟨_, rfl⟩
  rw [hKV] at P2 cc
  have HKV : Hid ((m.num σ1 k).2 = KV) := hKV
  clear hKV
  go_wp2_with fail
  refine gen_code (fun v2 => PS m W q b ty v2 σ2 ((cs.setIfInBounds i (.int .i64 (m.num σ mo).2)).setIfInBounds (i + 1) (.int .i64 KV))) P2.out ?_
  clear P2 cc ck fk
  rintro v2 P2
  have P2 : Hid (PS m W q b ty v2 σ2 ((cs.setIfInBounds i (.int .i64 (m.num σ mo).2)).setIfInBounds (i + 1) (.int .i64 KV))) := P2
  refine wp_region_held_drew (S := PB q m.agg) (by kernel_rfl) (P2.out.mv (below_drew1 _)).box (fun hHeld => ?_)
  have P2d : Hid (PS m W q b ty v2.drew _ _) := P2.out.mv (below_drew1 v2)
  refine wpAnyH_take (i := 0) (v := ?_) (oi := { dst := some 24, op := _, type := _, pos := _, after := _, guard := none }) rfl (by kernel_rfl) (by kernel_rfl) (by kernel_rfl) (fun _ _ _ h => h) (Or.inl ⟨by kernel_rfl, ?_⟩) (by assumption) ?_
  case refine_2 => (intro w9 hSw; clear hSw; go_simp; try with_reducible rfl)
  simp only [Act.put, List.setIfInBounds_toArray, List.set_cons_zero, List.set_cons_succ]
  refine wpAnyH_take (i := 1) (v := ?_) (oi := { dst := some 25, op := _, type := _, pos := _, after := _, guard := none }) rfl (by kernel_rfl) (by kernel_rfl) (by kernel_rfl) (fun _ _ _ h => h) (Or.inl ⟨by kernel_rfl, ?_⟩) (by assumption) ?_
  case refine_2 => (intro w9 hSw; obtain ⟨z0, z1, z2, z3⟩ := PB.c hSw; go_simp; try with_reducible rfl)
  simp only [Act.put, List.setIfInBounds_toArray, List.set_cons_zero, List.set_cons_succ]
  refine wpAnyH_take (i := 2) (v := ?_) (oi := { dst := some 26, op := _, type := _, pos := _, after := _, guard := none }) rfl (by kernel_rfl) (by kernel_rfl) (by kernel_rfl) (fun _ _ _ h => h) (Or.inl ⟨by kernel_rfl, ?_⟩) (by assumption) ?_
  case refine_2 => (intro w9 hSw; clear hSw; go_simp; try with_reducible rfl)
  simp only [Act.put, List.setIfInBounds_toArray, List.set_cons_zero, List.set_cons_succ]
  refine wpAnyH_take (i := 3) (v := ?_) (oi := { dst := some 27, op := _, type := _, pos := _, after := _, guard := none }) rfl (by kernel_rfl) (by kernel_rfl) (by kernel_rfl) (fun _ _ _ h => h) (Or.inl ⟨by kernel_rfl, ?_⟩) (by assumption) ?_
  case refine_2 => (intro w9 hSw; clear hSw; go_simp; try with_reducible rfl)
  simp only [Act.put, List.setIfInBounds_toArray, List.set_cons_zero, List.set_cons_succ]
  refine wpAnyH_take (i := 4) (v := ?_) (oi := { dst := some 28, op := _, type := _, pos := _, after := _, guard := none }) rfl (by kernel_rfl) (by kernel_rfl) (by kernel_rfl) (fun _ _ _ h => h) (Or.inl ⟨by kernel_rfl, ?_⟩) (by assumption) ?_
  case refine_2 => (intro w9 hSw; clear hSw; go_simp; try with_reducible rfl)
  simp only [Act.put, List.setIfInBounds_toArray, List.set_cons_zero, List.set_cons_succ]
  refine wpAnyH_take (i := 5) (v := ?_) (oi := { dst := some 29, op := _, type := _, pos := _, after := _, guard := none }) rfl (by kernel_rfl) (by kernel_rfl) (by kernel_rfl) (fun _ _ _ h => h) (Or.inl ⟨by kernel_rfl, ?_⟩) (by assumption) ?_
  case refine_2 => (intro w9 hSw; clear hSw; go_simp; try with_reducible rfl)
  simp only [Act.put, List.setIfInBounds_toArray, List.set_cons_zero, List.set_cons_succ]
  refine wpAnyH_ready (rs := [6]) (by kernel_rfl) (by simp) (AllReadyH.cons (o := { dst := some 30, op := _, type := _, pos := _, after := _, guard := none }) rfl (fun K hK => ?_) AllReadyH.nil)
  go_simp
  refine (m.hN _ _ b (i + 2) _ ty d P2d.out.st K3 P2d.out.blk hb1 hb2 h5 hlw (by simp [h2])).mono ?_
  rintro e v3 ⟨⟨r3, rfl⟩, hst, hblk, hk2⟩
  have P3 : Hid (PS m W q b ty v3 σ3 _) := ⟨by have h := hst; rw [HE3.out] at h; exact h, hblk, hk2.blk P2d.out.box hq1 hq2 (by decide), P2d.out.kt.trans hk2⟩
  refine hK.out _ _ P3.out.box (fun hHeld => ?_)
  clear hK K hHeld hst hblk hk2 P2 P2d
  refine wpAnyH_done (by kernel_rfl) ?_ _
  go_wp2_with fail
  refine wp_region_held_drew (S := PB q m.agg) (by kernel_rfl) (P3.out.mv (below_drew1 _)).box (fun hHeld => ?_)
  have P3d : Hid (PS m W q b ty v3.drew _ _) := P3.out.mv (below_drew1 v3)
  refine wpAnyH_take (i := 0) (v := ?_) (oi := { dst := some 31, op := _, type := _, pos := _, after := _, guard := none }) rfl (by kernel_rfl) (by kernel_rfl) (by kernel_rfl) (fun _ _ _ h => h) (Or.inl ⟨by kernel_rfl, ?_⟩) (by assumption) ?_
  case refine_2 => (intro w9 hSw; clear hSw; go_simp; try with_reducible rfl)
  simp only [Act.put, List.setIfInBounds_toArray, List.set_cons_zero, List.set_cons_succ]
  refine wpAnyH_take (i := 1) (v := ?_) (oi := { dst := some 32, op := _, type := _, pos := _, after := _, guard := none }) rfl (by kernel_rfl) (by kernel_rfl) (by kernel_rfl) (fun _ _ _ h => h) (Or.inl ⟨by kernel_rfl, ?_⟩) (by assumption) ?_
  case refine_2 => (intro w9 hSw; obtain ⟨z0, z1, z2, z3⟩ := PB.c hSw; go_simp; try with_reducible rfl)
  simp only [Act.put, List.setIfInBounds_toArray, List.set_cons_zero, List.set_cons_succ]
  refine wpAnyH_take (i := 2) (v := ?_) (oi := { dst := some 33, op := _, type := _, pos := _, after := _, guard := none }) rfl (by kernel_rfl) (by kernel_rfl) (by kernel_rfl) (fun _ _ _ h => h) (Or.inl ⟨by kernel_rfl, ?_⟩) (by assumption) ?_
  case refine_2 => (intro w9 hSw; clear hSw; go_simp; try with_reducible rfl)
  simp only [Act.put, List.setIfInBounds_toArray, List.set_cons_zero, List.set_cons_succ]
  refine wpAnyH_take (i := 3) (v := ?_) (oi := { dst := some 34, op := _, type := _, pos := _, after := _, guard := none }) rfl (by kernel_rfl) (by kernel_rfl) (by kernel_rfl) (fun _ _ _ h => h) (Or.inl ⟨by kernel_rfl, ?_⟩) (by assumption) ?_
  case refine_2 => (intro w9 hSw; clear hSw; go_simp; try with_reducible rfl)
  simp only [Act.put, List.setIfInBounds_toArray, List.set_cons_zero, List.set_cons_succ]
  refine wpAnyH_take (i := 4) (v := ?_) (oi := { dst := some 35, op := _, type := _, pos := _, after := _, guard := none }) rfl (by kernel_rfl) (by kernel_rfl) (by kernel_rfl) (fun _ _ _ h => h) (Or.inl ⟨by kernel_rfl, ?_⟩) (by assumption) ?_
  case refine_2 => (intro w9 hSw; clear hSw; go_simp; try with_reducible rfl)
  simp only [Act.put, List.setIfInBounds_toArray, List.set_cons_zero, List.set_cons_succ]
  refine wpAnyH_take (i := 5) (v := ?_) (oi := { dst := some 36, op := _, type := _, pos := _, after := _, guard := none }) rfl (by kernel_rfl) (by kernel_rfl) (by kernel_rfl) (fun _ _ _ h => h) (Or.inl ⟨by kernel_rfl, ?_⟩) (by assumption) ?_
  case refine_2 => (intro w9 hSw; clear hSw; go_simp; try with_reducible rfl)
  simp only [Act.put, List.setIfInBounds_toArray, List.set_cons_zero, List.set_cons_succ]
  refine wpAnyH_ready (rs := [6]) (by kernel_rfl) (by simp) (AllReadyH.cons (o := { dst := some 37, op := _, type := _, pos := _, after := _, guard := none }) rfl (fun K hK => ?_) AllReadyH.nil)
  go_simp
  refine (m.hN _ _ b (i + 3) _ ty n P3d.out.st K4 P3d.out.blk hb1 hb2 h5 hlw (by simp [h3])).mono ?_
  rintro e v4 ⟨⟨r4, rfl⟩, hst, hblk, hk2⟩
  have P4 : Hid (PS m W q b ty v4 σ4 _) := ⟨by have h := hst; rw [HE4.out] at h; exact h, hblk, hk2.blk P3d.out.box hq1 hq2 (by decide), P3d.out.kt.trans hk2⟩
  refine hK.out _ _ P4.out.box (fun hHeld => ?_)
  clear hK K hHeld hst hblk hk2 P3 P3d
  refine wpAnyH_done (by kernel_rfl) ?_ _
  go_wp2_with fail
  refine wp_region_held_drew (S := PB q m.agg) (by kernel_rfl) (P4.out.mv (below_drew1 _)).box (fun hHeld => ?_)
  have P4d : Hid (PS m W q b ty v4.drew _ _) := P4.out.mv (below_drew1 v4)
  refine wpAnyH_take (i := 0) (v := ?_) (oi := { dst := some 38, op := _, type := _, pos := _, after := _, guard := none }) rfl (by kernel_rfl) (by kernel_rfl) (by kernel_rfl) (fun _ _ _ h => h) (Or.inl ⟨by kernel_rfl, ?_⟩) (by assumption) ?_
  case refine_2 => (intro w9 hSw; clear hSw; go_simp; try with_reducible rfl)
  simp only [Act.put, List.setIfInBounds_toArray, List.set_cons_zero, List.set_cons_succ]
  refine wpAnyH_take (i := 1) (v := ?_) (oi := { dst := some 39, op := _, type := _, pos := _, after := _, guard := none }) rfl (by kernel_rfl) (by kernel_rfl) (by kernel_rfl) (fun _ _ _ h => h) (Or.inl ⟨by kernel_rfl, ?_⟩) (by assumption) ?_
  case refine_2 => (intro w9 hSw; obtain ⟨z0, z1, z2, z3⟩ := PB.c hSw; go_simp; try with_reducible rfl)
  simp only [Act.put, List.setIfInBounds_toArray, List.set_cons_zero, List.set_cons_succ]
  refine wpAnyH_take (i := 2) (v := ?_) (oi := { dst := some 40, op := _, type := _, pos := _, after := _, guard := none }) rfl (by kernel_rfl) (by kernel_rfl) (by kernel_rfl) (fun _ _ _ h => h) (Or.inl ⟨by kernel_rfl, ?_⟩) (by assumption) ?_
  case refine_2 => (intro w9 hSw; clear hSw; go_simp; try with_reducible rfl)
  simp only [Act.put, List.setIfInBounds_toArray, List.set_cons_zero, List.set_cons_succ]
  refine wpAnyH_take (i := 3) (v := ?_) (oi := { dst := some 41, op := _, type := _, pos := _, after := _, guard := none }) rfl (by kernel_rfl) (by kernel_rfl) (by kernel_rfl) (fun _ _ _ h => h) (Or.inl ⟨by kernel_rfl, ?_⟩) (by assumption) ?_
  case refine_2 => (intro w9 hSw; clear hSw; go_simp; try with_reducible rfl)
  simp only [Act.put, List.setIfInBounds_toArray, List.set_cons_zero, List.set_cons_succ]
  refine wpAnyH_take (i := 4) (v := ?_) (oi := { dst := some 42, op := _, type := _, pos := _, after := _, guard := none }) rfl (by kernel_rfl) (by kernel_rfl) (by kernel_rfl) (fun _ _ _ h => h) (Or.inl ⟨by kernel_rfl, ?_⟩) (by assumption) ?_
  case refine_2 => (intro w9 hSw; clear hSw; go_simp; try with_reducible rfl)
  simp only [Act.put, List.setIfInBounds_toArray, List.set_cons_zero, List.set_cons_succ]
  refine wpAnyH_take (i := 5) (v := ?_) (oi := { dst := some 43, op := _, type := _, pos := _, after := _, guard := none }) rfl (by kernel_rfl) (by kernel_rfl) (by kernel_rfl) (fun _ _ _ h => h) (Or.inl ⟨by kernel_rfl, ?_⟩) (by assumption) ?_
  case refine_2 => (intro w9 hSw; clear hSw; go_simp; try with_reducible rfl)
  simp only [Act.put, List.setIfInBounds_toArray, List.set_cons_zero, List.set_cons_succ]
  refine wpAnyH_ready (rs := [6]) (by kernel_rfl) (by simp) (AllReadyH.cons (o := { dst := some 44, op := _, type := _, pos := _, after := _, guard := none }) rfl (fun K hK => ?_) AllReadyH.nil)
  go_simp
  refine (m.hN _ _ b (i + 4) _ ty s P4d.out.st K5 P4d.out.blk hb1 hb2 h5 hlw (by simp [h4])).mono ?_
  rintro e v5 ⟨⟨r5, rfl⟩, hst, hblk, hk2⟩
  have P5 : Hid (PS m W q b ty v5 σ5 _) := ⟨by have h := hst; rw [HE5.out] at h; exact h, hblk, hk2.blk P4d.out.box hq1 hq2 (by decide), P4d.out.kt.trans hk2⟩
  refine hK.out _ _ P5.out.box (fun hHeld => ?_)
  clear hK K hHeld hst hblk hk2 P4 P4d
  refine wpAnyH_done (by kernel_rfl) ?_ _
  go_wp2_with fail
  refine wp_region_held_drew (S := PB q m.agg) (by kernel_rfl) (P5.out.mv (below_drew1 _)).box (fun hHeld => ?_)
  have P5d : Hid (PS m W q b ty v5.drew _ _) := P5.out.mv (below_drew1 v5)
  refine wpAnyH_take (i := 0) (v := ?_) (oi := { dst := some 45, op := _, type := _, pos := _, after := _, guard := none }) rfl (by kernel_rfl) (by kernel_rfl) (by kernel_rfl) (fun _ _ _ h => h) (Or.inl ⟨by kernel_rfl, ?_⟩) (by assumption) ?_
  case refine_2 => (intro w9 hSw; clear hSw; go_simp; try with_reducible rfl)
  simp only [Act.put, List.setIfInBounds_toArray, List.set_cons_zero, List.set_cons_succ]
  refine wpAnyH_take (i := 1) (v := ?_) (oi := { dst := some 46, op := _, type := _, pos := _, after := _, guard := none }) rfl (by kernel_rfl) (by kernel_rfl) (by kernel_rfl) (fun _ _ _ h => h) (Or.inl ⟨by kernel_rfl, ?_⟩) (by assumption) ?_
  case refine_2 => (intro w9 hSw; obtain ⟨z0, z1, z2, z3⟩ := PB.c hSw; go_simp; try with_reducible rfl)
  simp only [Act.put, List.setIfInBounds_toArray, List.set_cons_zero, List.set_cons_succ]
  refine wpAnyH_take (i := 2) (v := ?_) (oi := { dst := some 47, op := _, type := _, pos := _, after := _, guard := none }) rfl (by kernel_rfl) (by kernel_rfl) (by kernel_rfl) (fun _ _ _ h => h) (Or.inl ⟨by kernel_rfl, ?_⟩) (by assumption) ?_
  case refine_2 => (intro w9 hSw; clear hSw; go_simp; try with_reducible rfl)
  simp only [Act.put, List.setIfInBounds_toArray, List.set_cons_zero, List.set_cons_succ]
  refine wpAnyH_take (i := 3) (v := ?_) (oi := { dst := some 48, op := _, type := _, pos := _, after := _, guard := none }) rfl (by kernel_rfl) (by kernel_rfl) (by kernel_rfl) (fun _ _ _ h => h) (Or.inl ⟨by kernel_rfl, ?_⟩) (by assumption) ?_
  case refine_2 => (intro w9 hSw; clear hSw; go_simp; try with_reducible rfl)
  simp only [Act.put, List.setIfInBounds_toArray, List.set_cons_zero, List.set_cons_succ]
  refine wpAnyH_take (i := 4) (v := ?_) (oi := { dst := some 49, op := _, type := _, pos := _, after := _, guard := none }) rfl (by kernel_rfl) (by kernel_rfl) (by kernel_rfl) (fun _ _ _ h => h) (Or.inl ⟨by kernel_rfl, ?_⟩) (by assumption) ?_
  case refine_2 => (intro w9 hSw; clear hSw; go_simp; try with_reducible rfl)
  simp only [Act.put, List.setIfInBounds_toArray, List.set_cons_zero, List.set_cons_succ]
  refine wpAnyH_take (i := 5) (v := ?_) (oi := { dst := some 50, op := _, type := _, pos := _, after := _, guard := none }) rfl (by kernel_rfl) (by kernel_rfl) (by kernel_rfl) (fun _ _ _ h => h) (Or.inl ⟨by kernel_rfl, ?_⟩) (by assumption) ?_
  case refine_2 => (intro w9 hSw; clear hSw; go_simp; try with_reducible rfl)
  simp only [Act.put, List.setIfInBounds_toArray, List.set_cons_zero, List.set_cons_succ]
  refine wpAnyH_ready (rs := [6]) (by kernel_rfl) (by simp) (AllReadyH.cons (o := { dst := some 51, op := _, type := _, pos := _, after := _, guard := none }) rfl (fun K hK => ?_) AllReadyH.nil)
  go_simp
  refine (m.hO _ _ b (i + 5) _ ty z P5d.out.st K6 P5d.out.blk hb1 hb2 h5 hlw (by simp [h5'])).mono ?_
  rintro e v6 ⟨⟨r6, rfl⟩, hst, hblk, hk2⟩
  have P6 : Hid (PS m W q b ty v6 σ6 _) := ⟨by have h := hst; rw [HE6.out] at h; exact h, hblk, hk2.blk P5d.out.box hq1 hq2 (by decide), P5d.out.kt.trans hk2⟩
  refine hK.out _ _ P6.out.box (fun hHeld => ?_)
  clear hK K hHeld hst hblk hk2 P5 P5d
  refine wpAnyH_done (by kernel_rfl) ?_ _
  go_wp2_with fail
  refine wp_region_held_drew (S := PB q m.agg) (by kernel_rfl) (P6.out.mv (below_drew1 _)).box (fun hHeld => ?_)
  have P6d : Hid (PS m W q b ty v6.drew _ _) := P6.out.mv (below_drew1 v6)
  refine wpAnyH_take (i := 0) (v := ?_) (oi := { dst := some 52, op := _, type := _, pos := _, after := _, guard := none }) rfl (by kernel_rfl) (by kernel_rfl) (by kernel_rfl) (fun _ _ _ h => h) (Or.inl ⟨by kernel_rfl, ?_⟩) (by assumption) ?_
  case refine_2 => (intro w9 hSw; clear hSw; go_simp; try with_reducible rfl)
  simp only [Act.put, List.setIfInBounds_toArray, List.set_cons_zero, List.set_cons_succ]
  refine wpAnyH_take (i := 1) (v := ?_) (oi := { dst := some 53, op := _, type := _, pos := _, after := _, guard := none }) rfl (by kernel_rfl) (by kernel_rfl) (by kernel_rfl) (fun _ _ _ h => h) (Or.inl ⟨by kernel_rfl, ?_⟩) (by assumption) ?_
  case refine_2 => (intro w9 hSw; obtain ⟨z0, z1, z2, z3⟩ := PB.c hSw; go_simp; try with_reducible rfl)
  simp only [Act.put, List.setIfInBounds_toArray, List.set_cons_zero, List.set_cons_succ]
  refine wpAnyH_take (i := 2) (v := ?_) (oi := { dst := some 54, op := _, type := _, pos := _, after := _, guard := none }) rfl (by kernel_rfl) (by kernel_rfl) (by kernel_rfl) (fun _ _ _ h => h) (Or.inl ⟨by kernel_rfl, ?_⟩) (by assumption) ?_
  case refine_2 => (intro w9 hSw; clear hSw; go_simp; try with_reducible rfl)
  simp only [Act.put, List.setIfInBounds_toArray, List.set_cons_zero, List.set_cons_succ]
  refine wpAnyH_take (i := 3) (v := ?_) (oi := { dst := some 55, op := _, type := _, pos := _, after := _, guard := none }) rfl (by kernel_rfl) (by kernel_rfl) (by kernel_rfl) (fun _ _ _ h => h) (Or.inl ⟨by kernel_rfl, ?_⟩) (by assumption) ?_
  case refine_2 => (intro w9 hSw; clear hSw; go_simp; try with_reducible rfl)
  simp only [Act.put, List.setIfInBounds_toArray, List.set_cons_zero, List.set_cons_succ]
  refine wpAnyH_take (i := 4) (v := ?_) (oi := { dst := some 56, op := _, type := _, pos := _, after := _, guard := none }) rfl (by kernel_rfl) (by kernel_rfl) (by kernel_rfl) (fun _ _ _ h => h) (Or.inl ⟨by kernel_rfl, ?_⟩) (by assumption) ?_
  case refine_2 => (intro w9 hSw; clear hSw; go_simp; try with_reducible rfl)
  simp only [Act.put, List.setIfInBounds_toArray, List.set_cons_zero, List.set_cons_succ]
  refine wpAnyH_ready (rs := [5]) (by kernel_rfl) (by simp) (AllReadyH.cons (o := { dst := some 57, op := _, type := _, pos := _, after := _, guard := none }) rfl (fun K hK => ?_) AllReadyH.nil)
  go_simp
  refine (m.hN _ _ b (i + 6) _ ty v P6d.out.st K7 P6d.out.blk hb1 hb2 h5 hlw (by simp [h6])).mono ?_
  rintro e v7 ⟨⟨r7, rfl⟩, hst, hblk, hk2⟩
  have P7 : Hid (PS m W q b ty v7 σ7 _) := ⟨by have h := hst; rw [HE7.out] at h; exact h, hblk, hk2.blk P6d.out.box hq1 hq2 (by decide), P6d.out.kt.trans hk2⟩
  refine hK.out _ _ P7.out.box (fun hHeld => ?_)
  clear hK K hHeld hst hblk hk2 P6 P6d
  refine wpAnyH_done (by kernel_rfl) ?_ _
  go_wp2_with fail
  refine wp_region_held_drew (S := PB q m.agg) (by kernel_rfl) (P7.out.mv (below_drew1 _)).box (fun hHeld => ?_)
  have P7d : Hid (PS m W q b ty v7.drew _ _) := P7.out.mv (below_drew1 v7)
  refine wpAnyH_take (i := 0) (v := ?_) (oi := { dst := some 58, op := _, type := _, pos := _, after := _, guard := none }) rfl (by kernel_rfl) (by kernel_rfl) (by kernel_rfl) (fun _ _ _ h => h) (Or.inl ⟨by kernel_rfl, ?_⟩) (by assumption) ?_
  case refine_2 => (intro w9 hSw; clear hSw; go_simp; try with_reducible rfl)
  simp only [Act.put, List.setIfInBounds_toArray, List.set_cons_zero, List.set_cons_succ]
  refine wpAnyH_take (i := 1) (v := ?_) (oi := { dst := some 59, op := _, type := _, pos := _, after := _, guard := none }) rfl (by kernel_rfl) (by kernel_rfl) (by kernel_rfl) (fun _ _ _ h => h) (Or.inl ⟨by kernel_rfl, ?_⟩) (by assumption) ?_
  case refine_2 => (intro w9 hSw; obtain ⟨z0, z1, z2, z3⟩ := PB.c hSw; go_simp; try with_reducible rfl)
  simp only [Act.put, List.setIfInBounds_toArray, List.set_cons_zero, List.set_cons_succ]
  refine wpAnyH_take (i := 2) (v := ?_) (oi := { dst := some 60, op := _, type := _, pos := _, after := _, guard := none }) rfl (by kernel_rfl) (by kernel_rfl) (by kernel_rfl) (fun _ _ _ h => h) (Or.inl ⟨by kernel_rfl, ?_⟩) (by assumption) ?_
  case refine_2 => (intro w9 hSw; clear hSw; go_simp; try with_reducible rfl)
  simp only [Act.put, List.setIfInBounds_toArray, List.set_cons_zero, List.set_cons_succ]
  refine wpAnyH_take (i := 3) (v := ?_) (oi := { dst := some 61, op := _, type := _, pos := _, after := _, guard := none }) rfl (by kernel_rfl) (by kernel_rfl) (by kernel_rfl) (fun _ _ _ h => h) (Or.inl ⟨by kernel_rfl, ?_⟩) (by assumption) ?_
  case refine_2 => (intro w9 hSw; clear hSw; go_simp; try with_reducible rfl)
  simp only [Act.put, List.setIfInBounds_toArray, List.set_cons_zero, List.set_cons_succ]
  refine wpAnyH_take (i := 4) (v := ?_) (oi := { dst := some 62, op := _, type := _, pos := _, after := _, guard := none }) rfl (by kernel_rfl) (by kernel_rfl) (by kernel_rfl) (fun _ _ _ h => h) (Or.inl ⟨by kernel_rfl, ?_⟩) (by assumption) ?_
  case refine_2 => (intro w9 hSw; clear hSw; go_simp; try with_reducible rfl)
  simp only [Act.put, List.setIfInBounds_toArray, List.set_cons_zero, List.set_cons_succ]
  refine wpAnyH_ready (rs := [5]) (by kernel_rfl) (by simp) (AllReadyH.cons (o := { dst := some 63, op := _, type := _, pos := _, after := _, guard := none }) rfl (fun K hK => ?_) AllReadyH.nil)
  go_simp
  refine (m.hT _ _ b (i + 7) _ ty t P7d.out.st K8 P7d.out.blk hb1 hb2 h5 hlw (by simp [h7])).mono ?_
  rintro e v8 ⟨⟨r8, rfl⟩, hst, hblk, hk2⟩
  have P8 : Hid (PS m W q b ty v8 σ8 _) := ⟨by have h := hst; rw [HE8.out] at h; exact h, hblk, hk2.blk P7d.out.box hq1 hq2 (by decide), P7d.out.kt.trans hk2⟩
  refine hK.out _ _ P8.out.box (fun hHeld => ?_)
  clear hK K hHeld hst hblk hk2 P7 P7d
  refine wpAnyH_done (by kernel_rfl) ?_ _
  go_wp2_with fail
  exact bodyPost_end (v := .tuple #[]) (by simp [results, Tryd.results29, go_sem]) rfl ⟨⟨_, rfl⟩, P8.out.st, by have h := P8.out.blk; rw [← HKV.out] at h; exact h, P8.out.kt⟩

end Go.Proofs.YtcgcljfdfimfgaaDoor
