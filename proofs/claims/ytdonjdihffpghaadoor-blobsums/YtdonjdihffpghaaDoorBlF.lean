/- Contract: blob.pass of a table with no Trans and no foot, by either machine. -/
import Derived.Test.YtdonjdihffpghaaDoorBlE
namespace Go.Proofs.YtdonjdihffpghaaDoor
open Go.RowKit Sr
set_option linter.unusedVariables false

theorem cell_of {W : World} {b : Nat} {cs : Array Value} {t : TypeId} {fz : Nat × Nat} (h : W.heap[b]? = some (.cells cs t fz)) {i : Nat} {v : Value} (hi : cs[i]? = some v) : W.cell? ⟨b, i, none⟩ = some v := by simp [World.cell?, h, hi]
theorem KT2.side {bb b cb : Nat} {A B C : World} (h : KT2 bb b A B) (k : KT2 bb cb B C) (hc : A.heap.size ≤ cb) : KT2 bb b A C :=
  ⟨Nat.le_trans h.1 k.1, fun i o hi h1 h2 h5 => k.2 i o (h.2 i o hi h1 h2 h5) h1 (by have := (Array.getElem?_eq_some_iff.1 hi).1; omega) h5⟩
/-- what comes of the bytes: a name, a stand, a count, a flag. -/
def sN {bb pb : Nat} (m : PM bb pb) (σ : List UInt8) (nm : ByteArray) : List UInt8 := (m.text σ nm).1
def sS {bb pb : Nat} (m : PM bb pb) (σ : List UInt8) (off : Int) (dst : Bool) (ab : ByteArray) : List UInt8 := (m.text (m.flag (m.num σ off).1 dst).1 ab).1

set_option maxRecDepth 100000 in
set_option maxHeartbeats 4000000 in
theorem pass_0 {bb pb : Nat} (m : PM bb pb) (W : World) (σ : List UInt8) (b : Nat) (cs : Array Value) (nm : ByteArray) (off : Int) (dst : Bool) (ab : ByteArray) (has : Bool) (hS : Hid (m.St W σ)) (hblk : Hid (W.heap[b]? = some (.cells cs 52 (0, 0)))) (hb1 : b ≠ bb) (hb2 : b ≠ pb) (hlw : m.lw ≤ b)
    (hc0 : cs[0]? = some (.string nm)) (hc2 : cs[2]? = some (.int .i64 off)) (hc3 : cs[3]? = some (.bool dst)) (hc4 : cs[4]? = some (.string ab)) (hc5 : cs[5]? = some (.slice none 0 0)) (hc6 : cs[6]? = some (.bool has))
    (σ1 σ2 σ3 : List UInt8) (h1 : sN m σ nm = σ1) (h2 : sS m σ1 off dst ab = σ2) (h3 : m.num σ2 0 = (σ3, 0)) (hF : (m.flag σ3 has).2 = false) (HK : Hid (m.ok (m.flag σ3 has).1)) :
    Calls Tryd.prog 18 #[.pointer (some ⟨b, 0, none⟩), .agg m.agg] W fun e W' => (∃ v, e = .returned v) ∧ m.St W' (m.flag σ3 has).1 ∧
      W'.heap[b]? = some (.cells (((((cs.setIfInBounds 0 (.string (m.text σ nm).2)).setIfInBounds 2 (.int .i64 (m.num σ1 off).2)).setIfInBounds 3 (.bool (m.flag (m.num σ1 off).1 dst).2)).setIfInBounds 4 (.string (m.text (m.flag (m.num σ1 off).1 dst).1 ab).2)).setIfInBounds 6 (.bool false)) 52 (0, 0)) ∧ KT2 bb b W W' := by
  have K5 := HK.out
  have hsz6 : 6 < cs.size := (Array.getElem?_eq_some_iff.1 hc6).1
  have K3' : m.ok σ3 := m.bF _ _ K5
  have K3 : m.ok (m.num σ2 0).1 := by rw [h3]; exact K3'
  have K2 : m.ok (m.text (m.flag (m.num σ1 off).1 dst).1 ab).1 := by rw [show (m.text (m.flag (m.num σ1 off).1 dst).1 ab).1 = σ2 from h2]; exact m.bN _ _ K3
  have K1 : m.ok (m.text σ nm).1 := by rw [show (m.text σ nm).1 = σ1 from h1]; exact m.bN _ _ (m.bF _ _ (m.bT _ _ K2))
  clear K3'
  have e1 := m.eN
  have e2 := m.eF
  have e3 := m.eT
  obtain ⟨q, hq⟩ : ∃ q, W.heap.size = q := ⟨_, rfl⟩
  have hq1 : q ≠ bb := by have := (m.lt _ _ hS.out).1; omega
  have hq2 : q ≠ b := by have := (Array.getElem?_eq_some_iff.1 hblk.out).1; omega
  have P0 : Hid (PS m W q b 52 (W.alloc (.cells m.agg 69)) σ cs) := by
    have hb := (Below.refl _ W).alloc (Nat.le_refl _) (.cells m.agg 69)
    exact ⟨m.below _ _ _ hS.out hb, blk_below hb hblk.out, by rw [← hq]; exact World.alloc_heap_new W _, KT2.of_below hb⟩
  clear hS hblk HK
  go_enter Tryd.func18, Tryd.ntmps18
  go_wp2_with fail
  clear hq
  refine gen_code (fun w1 => PS m W q b 52 w1 σ cs) P0.out ?_
  clear P0
  rintro w1 P0
  have P0 : Hid (PS m W q b 52 w1 σ cs) := P0
  refine wp_region_held_drew (S := PB q m.agg) (by kernel_rfl) (P0.out.mv (below_drew1 _)).box (fun hHeld => ?_)
  have P0d : Hid (PS m W q b 52 w1.drew _ _) := P0.out.mv (below_drew1 w1)
  refine wpAnyH_take (i := 0) (v := ?_) (oi := { dst := some 7, op := _, type := _, pos := _, after := _, guard := none }) rfl (by kernel_rfl) (by kernel_rfl) (by kernel_rfl) (fun _ _ _ h => h) (Or.inl ⟨by kernel_rfl, ?_⟩) (by assumption) ?_
  case refine_2 => (intro w9 hSw; clear hSw; go_simp; try with_reducible rfl)
  simp only [Act.put, List.setIfInBounds_toArray, List.set_cons_zero, List.set_cons_succ]
  refine wpAnyH_take (i := 1) (v := ?_) (oi := { dst := some 8, op := _, type := _, pos := _, after := _, guard := none }) rfl (by kernel_rfl) (by kernel_rfl) (by kernel_rfl) (fun _ _ _ h => h) (Or.inl ⟨by kernel_rfl, ?_⟩) (by assumption) ?_
  case refine_2 => (intro w9 hSw; obtain ⟨z0, z1, z2, z3⟩ := PB.c hSw; go_simp; try with_reducible rfl)
  simp only [Act.put, List.setIfInBounds_toArray, List.set_cons_zero, List.set_cons_succ]
  refine wpAnyH_take (i := 2) (v := ?_) (oi := { dst := some 9, op := _, type := _, pos := _, after := _, guard := none }) rfl (by kernel_rfl) (by kernel_rfl) (by kernel_rfl) (fun _ _ _ h => h) (Or.inl ⟨by kernel_rfl, ?_⟩) (by assumption) ?_
  case refine_2 => (intro w9 hSw; clear hSw; go_simp; try with_reducible rfl)
  simp only [Act.put, List.setIfInBounds_toArray, List.set_cons_zero, List.set_cons_succ]
  refine wpAnyH_take (i := 3) (v := ?_) (oi := { dst := some 10, op := _, type := _, pos := _, after := _, guard := none }) rfl (by kernel_rfl) (by kernel_rfl) (by kernel_rfl) (fun _ _ _ h => h) (Or.inl ⟨by kernel_rfl, ?_⟩) (by assumption) ?_
  case refine_2 => (intro w9 hSw; clear hSw; go_simp; try with_reducible rfl)
  simp only [Act.put, List.setIfInBounds_toArray, List.set_cons_zero, List.set_cons_succ]
  refine wpAnyH_take (i := 4) (v := ?_) (oi := { dst := some 11, op := _, type := _, pos := _, after := _, guard := none }) rfl (by kernel_rfl) (by kernel_rfl) (by kernel_rfl) (fun _ _ _ h => h) (Or.inl ⟨by kernel_rfl, ?_⟩) (by assumption) ?_
  case refine_2 => (intro w9 hSw; clear hSw; go_simp; try with_reducible rfl)
  simp only [Act.put, List.setIfInBounds_toArray, List.set_cons_zero, List.set_cons_succ]
  refine wpAnyH_ready (rs := [5]) (by kernel_rfl) (by simp) (AllReadyH.cons (o := { dst := some 12, op := _, type := _, pos := _, after := _, guard := none }) rfl (fun K hK => ?_) AllReadyH.nil)
  go_simp
  refine (m.hT _ _ b 0 _ 52 nm P0d.out.st K1 P0d.out.blk hb1 hb2 (by decide) hlw hc0).mono ?_
  rintro e v1 ⟨⟨r1, rfl⟩, hst, hblk, hk2⟩
  have P1 : Hid (PS m W q b 52 v1 σ1 _) := ⟨by have h := hst; rw [show (m.text σ nm).1 = σ1 from h1] at h; exact h, hblk, hk2.blk P0d.out.box hq1 hq2 (by decide), P0d.out.kt.trans hk2⟩
  refine hK.out _ _ P1.out.box (fun hHeld => ?_)
  clear hK K hHeld hst hblk hk2 P0 P0d
  refine wpAnyH_done (by kernel_rfl) ?_ _
  go_wp2_with fail
  refine wp_region_held_drew (S := PB q m.agg) (by kernel_rfl) (P1.out.mv (below_drew1 _)).box (fun hHeld => ?_)
  have P1d : Hid (PS m W q b 52 v1.drew _ _) := P1.out.mv (below_drew1 v1)
  refine wpAnyH_take (i := 0) (v := ?_) (oi := { dst := some 13, op := _, type := _, pos := _, after := _, guard := none }) rfl (by kernel_rfl) (by kernel_rfl) (by kernel_rfl) (fun _ _ _ h => h) (Or.inl ⟨by kernel_rfl, ?_⟩) (by assumption) ?_
  case refine_2 => (intro w9 hSw; obtain ⟨z0, z1, z2, z3⟩ := PB.c hSw; go_simp; try with_reducible rfl)
  simp only [Act.put, List.setIfInBounds_toArray, List.set_cons_zero, List.set_cons_succ]
  refine wpAnyH_take (i := 1) (v := ?_) (oi := { dst := some 14, op := _, type := _, pos := _, after := _, guard := none }) rfl (by kernel_rfl) (by kernel_rfl) (by kernel_rfl) (fun _ _ _ h => h) (Or.inl ⟨by kernel_rfl, ?_⟩) (by assumption) ?_
  case refine_2 => (intro w9 hSw; clear hSw; go_simp; try with_reducible rfl)
  simp only [Act.put, List.setIfInBounds_toArray, List.set_cons_zero, List.set_cons_succ]
  refine wpAnyH_take (i := 2) (v := ?_) (oi := { dst := some 15, op := _, type := _, pos := _, after := _, guard := none }) rfl (by kernel_rfl) (by kernel_rfl) (by kernel_rfl) (fun _ _ _ h => h) (Or.inl ⟨by kernel_rfl, ?_⟩) (by assumption) ?_
  case refine_2 => (intro w9 hSw; clear hSw; go_simp; try with_reducible rfl)
  simp only [Act.put, List.setIfInBounds_toArray, List.set_cons_zero, List.set_cons_succ]
  refine wpAnyH_take (i := 3) (v := ?_) (oi := { dst := some 16, op := _, type := _, pos := _, after := _, guard := none }) rfl (by kernel_rfl) (by kernel_rfl) (by kernel_rfl) (fun _ _ _ h => h) (Or.inl ⟨by kernel_rfl, ?_⟩) (by assumption) ?_
  case refine_2 => (intro w9 hSw; clear hSw; go_simp; try with_reducible rfl)
  simp only [Act.put, List.setIfInBounds_toArray, List.set_cons_zero, List.set_cons_succ]
  refine wpAnyH_ready (rs := [4]) (by kernel_rfl) (by simp) (AllReadyH.cons (o := { dst := some 17, op := _, type := _, pos := _, after := _, guard := none }) rfl (fun K hK => ?_) AllReadyH.nil)
  go_simp
  refine (stand_any m _ _ b 1 _ 52 off dst ab P1d.out.st P1d.out.blk hb1 hb2 (by decide) hlw (by simp [hc2]) (by simp [hc3]) (by simp [hc4]) K2).mono ?_
  rintro e v2 ⟨⟨r2, rfl⟩, hst, hblk, hk2⟩
  have P2 : Hid (PS m W q b 52 v2 σ2 _) := ⟨by have h := hst; rw [show (m.text (m.flag (m.num σ1 off).1 dst).1 ab).1 = σ2 from h2] at h; exact h, hblk, hk2.blk P1d.out.box hq1 hq2 (by decide), P1d.out.kt.trans hk2⟩
  refine hK.out _ _ P2.out.box (fun hHeld => ?_)
  clear hK K hHeld hst hblk hk2 P1 P1d
  refine wpAnyH_done (by kernel_rfl) ?_ _
  have c5 := cell_of P2.out.blk (i := 5) (v := .slice none 0 0) (by simp [hc5])
  obtain ⟨z0, z1, z2, z3⟩ := PB.c P2.out.box
  have hlt : q < v2.heap.size := (Array.getElem?_eq_some_iff.1 P2.out.box).1
  go_wp2_with fail
  have hbc : Below v2.heap.size v2 (v2.alloc (.cells #[.int .i64 0] 2)) := (Below.refl _ v2).alloc (Nat.le_refl _) _
  have P3 : Hid (PS m W q b 52 (v2.alloc (.cells #[.int .i64 0] 2)) σ2 _) := P2.out.mv hbc
  obtain ⟨cb, hcb⟩ : ∃ cb, v2.heap.size = cb := ⟨_, rfl⟩
  rw [hcb]
  have hcb1 : cb ≠ bb := by have := (m.lt _ _ P2.out.st).1; omega
  have hcb2 : cb ≠ pb := by have := (m.lt _ _ P2.out.st).2; omega
  have hcb3 : cb ≠ b := by have := (Array.getElem?_eq_some_iff.1 P2.out.blk).1; omega
  have hcb4 : cb ≠ q := by have := (Array.getElem?_eq_some_iff.1 P2.out.box).1; omega
  have hcbk : (v2.alloc (.cells #[.int .i64 0] 2)).heap[cb]? = some (.cells #[.int .i64 0] 2 (0, 0)) := by rw [← hcb]; exact World.alloc_heap_new v2 _
  refine (m.hN _ _ cb 0 _ 2 0 P3.out.st K3 hcbk hcb1 hcb2 (by decide) (by have := m.le _ _ P2.out.st; omega) rfl).mono ?_
  rintro e v4 ⟨⟨r4, rfl⟩, hst, hblk, hk2⟩
  rw [h3] at hst hblk
  have P4 : Hid (PS m W q b 52 v4 σ3 _) := ⟨hst, hk2.blk P3.out.blk hb1 hcb3.symm (by decide), hk2.blk P3.out.box hq1 hcb4.symm (by decide), P3.out.kt.side hk2 (by have := P2.out.kt.1; omega)⟩
  have cc : v4.cell? ⟨cb, 0, none⟩ = some (.int .i64 0) := cell_of hblk (by simp)
  clear hst hblk hk2 P3 P2 hbc hcbk
  go_wp2_with fail
  go_loopw [28] (fun i W' => i = .int .i64 0 ∧ W' = v4) (fun _ _ => 0)
  case atStart => exact ⟨rfl, rfl⟩
  case round =>
    obtain ⟨rfl, hw⟩ := hrel
    obtain rfl := hw.symm
    clear hw
    go_wp2_with fail
    refine wp_region_held_drew (S := PB q m.agg) (by kernel_rfl) (P4.out.mv (below_drew1 _)).box (fun hHeld => ?_)
    have P4d : Hid (PS m W q b 52 v4.drew _ _) := P4.out.mv (below_drew1 v4)
    refine wpAnyH_take (i := 0) (v := ?_) (oi := { dst := some 70, op := _, type := _, pos := _, after := _, guard := none }) rfl (by kernel_rfl) (by kernel_rfl) (by kernel_rfl) (fun _ _ _ h => h) (Or.inl ⟨by kernel_rfl, ?_⟩) (by assumption) ?_
    case refine_2 => (intro w9 hSw; clear hSw; go_simp; try with_reducible rfl)
    simp only [Act.put, List.setIfInBounds_toArray, List.set_cons_zero, List.set_cons_succ]
    refine wpAnyH_take (i := 1) (v := ?_) (oi := { dst := some 71, op := _, type := _, pos := _, after := _, guard := none }) rfl (by kernel_rfl) (by kernel_rfl) (by kernel_rfl) (fun _ _ _ h => h) (Or.inl ⟨by kernel_rfl, ?_⟩) (by assumption) ?_
    case refine_2 => (intro w9 hSw; obtain ⟨z0, z1, z2, z3⟩ := PB.c hSw; go_simp; try with_reducible rfl)
    simp only [Act.put, List.setIfInBounds_toArray, List.set_cons_zero, List.set_cons_succ]
    refine wpAnyH_take (i := 2) (v := ?_) (oi := { dst := some 72, op := _, type := _, pos := _, after := _, guard := none }) rfl (by kernel_rfl) (by kernel_rfl) (by kernel_rfl) (fun _ _ _ h => h) (Or.inl ⟨by kernel_rfl, ?_⟩) (by assumption) ?_
    case refine_2 => (intro w9 hSw; clear hSw; go_simp; try with_reducible rfl)
    simp only [Act.put, List.setIfInBounds_toArray, List.set_cons_zero, List.set_cons_succ]
    refine wpAnyH_take (i := 3) (v := ?_) (oi := { dst := some 73, op := _, type := _, pos := _, after := _, guard := none }) rfl (by kernel_rfl) (by kernel_rfl) (by kernel_rfl) (fun _ _ _ h => h) (Or.inl ⟨by kernel_rfl, ?_⟩) (by assumption) ?_
    case refine_2 => (intro w9 hSw; clear hSw; go_simp; try with_reducible rfl)
    simp only [Act.put, List.setIfInBounds_toArray, List.set_cons_zero, List.set_cons_succ]
    refine wpAnyH_take (i := 4) (v := ?_) (oi := { dst := some 74, op := _, type := _, pos := _, after := _, guard := none }) rfl (by kernel_rfl) (by kernel_rfl) (by kernel_rfl) (fun _ _ _ h => h) (Or.inl ⟨by kernel_rfl, ?_⟩) (by assumption) ?_
    case refine_2 => (intro w9 hSw; clear hSw; go_simp; try with_reducible rfl)
    simp only [Act.put, List.setIfInBounds_toArray, List.set_cons_zero, List.set_cons_succ]
    refine wpAnyH_ready (rs := [5]) (by kernel_rfl) (by simp) (AllReadyH.cons (o := { dst := some 75, op := _, type := _, pos := _, after := _, guard := none }) rfl (fun K hK => ?_) AllReadyH.nil)
    go_simp
    refine (m.hF _ _ b 6 _ 52 has P4d.out.st K5 P4d.out.blk hb1 hb2 (by decide) hlw (by simp [hc6])).mono ?_
    rintro e v5 ⟨⟨r5, rfl⟩, hst, hblk, hk2⟩
    have P5 : Hid (PS m W q b 52 v5 _ _) := ⟨hst, hblk, hk2.blk P4d.out.box hq1 hq2 (by decide), P4d.out.kt.trans hk2⟩
    refine hK.out _ _ P5.out.box (fun hHeld => ?_)
    clear hK K hHeld hst hblk hk2 P4 P4d
    refine wpAnyH_done (by kernel_rfl) ?_ _
    have cF : (m.flag σ3 has).2 = false := hF
    have c6 := cell_of P5.out.blk (i := 6) (v := .bool false) (by rw [cF]; simp [hsz6])
    go_wp2_with fail
    exact bodyPost_ret (v := .tuple #[]) (by simp [results, Tryd.results18, go_sem]) rfl ⟨⟨_, rfl⟩, P5.out.st, by have h := P5.out.blk; rw [cF] at h; exact h, P5.out.kt⟩

end Go.Proofs.YtdonjdihffpghaaDoor
