import Derived.Test.YtcgcljfdfimfgaaDoorR20
/- Contract: blob.pass of a table with a foot, by either machine. -/
namespace Go.Proofs.YtcgcljfdfimfgaaDoor
open Go.RowKit Sr
set_option linter.unusedVariables false

/-- one half of a foot. -/
structure H8 where
  mo : Int
  k : Int
  d : Int
  n : Int
  s : Int
  v : Int
  z : UInt8
  t : ByteArray
/-- eight cells that are written. -/
def setH (cs : Array Value) (i : Nat) (x0 x1 x2 x3 x4 x5 x6 x7 : Value) : Array Value := (((((((cs.setIfInBounds i x0).setIfInBounds (i + 1) x1).setIfInBounds (i + 2) x2).setIfInBounds (i + 3) x3).setIfInBounds (i + 4) x4).setIfInBounds (i + 5) x5).setIfInBounds (i + 6) x6).setIfInBounds (i + 7) x7
/-- what comes of the bytes. -/
def hfS {bb pb : Nat} (m : PM bb pb) (σ : List UInt8) (h : H8) : List UInt8 := (m.text (m.num (m.oct (m.num (m.num (m.num (m.num (m.num σ h.mo).1 h.k).1 h.d).1 h.n).1 h.s).1 h.z).1 h.v).1 h.t).1
theorem ok_half {bb pb : Nat} (m : PM bb pb) (σ : List UInt8) (h : H8) (k : m.ok (hfS m σ h)) : m.ok σ := m.bN _ _ (m.bN _ _ (m.bN _ _ (m.bN _ _ (m.bN _ _ (m.bO _ _ (m.bN _ _ (m.bT _ _ k)))))))

set_option maxRecDepth 100000 in
set_option maxHeartbeats 8000000 in
theorem pass_foot {bb pb : Nat} (m : PM bb pb) (W : World) (σ : List UInt8) (tb : Nat) (cs : Array Value) (nm : ByteArray) (off : Int) (dst : Bool) (ab : ByteArray) (has : Bool) (ao : Option Addr) (n0 c0 : Nat) (L E : List TrR) (cnt : Int) (NK : Nat) (hS : Hid (m.St W σ)) (hblk : Hid (W.heap[tb]? = some (.cells cs 46 (0, 0)))) (hb1 : tb ≠ bb) (hb2 : tb ≠ pb) (hlw : m.lw ≤ tb) (hlo : m.lo ≤ tb)
    (hc0 : cs[0]? = some (.string nm)) (hc2 : cs[2]? = some (.int .i64 off)) (hc3 : cs[3]? = some (.bool dst)) (hc4 : cs[4]? = some (.string ab)) (hc5 : cs[5]? = some (.slice ao n0 c0)) (hc6 : cs[6]? = some (.bool has)) (hL : L.length = n0) (HOW : Hid (W.ownsRow m.lw 23 4 (.slice ao n0 c0) n0 (trCs L)))
    (σ1 σ2 σ3 σ4 : List UInt8) (h1 : sN m σ nm = σ1) (h2 : sS m σ1 off dst ab = σ2) (h3 : m.num σ2 (n0 : Int) = (σ3, cnt)) (hNK : (min cnt 4096).toNat = NK) (HLP : Hid (loopF m (NK - 0) L σ3 = (σ4, E.drop 0))) (hgr : m.lo ≤ m.lw ∨ NK ≤ n0) (fr foff : Int) (hA hB : H8) (hc7 : cs[7]? = some (.int .i64 fr)) (hc8 : cs[8]? = some (.int .i64 foff)) (hcA0 : cs[9]? = some (.int .i64 hA.mo)) (hcA1 : cs[10]? = some (.int .i64 hA.k)) (hcA2 : cs[11]? = some (.int .i64 hA.d)) (hcA3 : cs[12]? = some (.int .i64 hA.n)) (hcA4 : cs[13]? = some (.int .i64 hA.s)) (hcA5 : cs[14]? = some (.int .u8 (hA.z.toNat : Int))) (hcA6 : cs[15]? = some (.int .i64 hA.v)) (hcA7 : cs[16]? = some (.string hA.t)) (hcB0 : cs[17]? = some (.int .i64 hB.mo)) (hcB1 : cs[18]? = some (.int .i64 hB.k)) (hcB2 : cs[19]? = some (.int .i64 hB.d)) (hcB3 : cs[20]? = some (.int .i64 hB.n)) (hcB4 : cs[21]? = some (.int .i64 hB.s)) (hcB5 : cs[22]? = some (.int .u8 (hB.z.toNat : Int))) (hcB6 : cs[23]? = some (.int .i64 hB.v)) (hcB7 : cs[24]? = some (.string hB.t)) (hF : (m.flag σ4 has).2 = true) (HK : Hid (m.ok (hfS m (hfS m (m.num (m.num (m.flag σ4 has).1 fr).1 foff).1 hA) hB))) :
    Calls Tryd.prog 12 #[.pointer (some ⟨tb, 0, none⟩), .agg m.agg] W fun e W' => (∃ v, e = .returned v) ∧ m.St W' (hfS m (hfS m (m.num (m.num (m.flag σ4 has).1 fr).1 foff).1 hA) hB) ∧ ∃ v', W'.heap[tb]? = some (.cells (setH (setH ((((((((cs.setIfInBounds 0 (.string (m.text σ nm).2)).setIfInBounds (1 + 1) (.int .i64 (m.num σ1 off).2)).setIfInBounds (1 + 2) (.bool (m.flag (m.num σ1 off).1 dst).2)).setIfInBounds (1 + 3) (.string (m.text (m.flag (m.num σ1 off).1 dst).1 ab).2)).setIfInBounds 5 v').setIfInBounds 6 (.bool true)).setIfInBounds 7 (.int .i64 (m.num (m.flag σ4 has).1 fr).2)).setIfInBounds 8 (.int .i64 (m.num (m.num (m.flag σ4 has).1 fr).1 foff).2)) 9 (.int .i64 (m.num (m.num (m.num (m.flag σ4 has).1 fr).1 foff).1 hA.mo).2) (.int .i64 (m.num (m.num (m.num (m.num (m.flag σ4 has).1 fr).1 foff).1 hA.mo).1 hA.k).2) (.int .i64 (m.num (m.num (m.num (m.num (m.num (m.flag σ4 has).1 fr).1 foff).1 hA.mo).1 hA.k).1 hA.d).2) (.int .i64 (m.num (m.num (m.num (m.num (m.num (m.num (m.flag σ4 has).1 fr).1 foff).1 hA.mo).1 hA.k).1 hA.d).1 hA.n).2) (.int .i64 (m.num (m.num (m.num (m.num (m.num (m.num (m.num (m.flag σ4 has).1 fr).1 foff).1 hA.mo).1 hA.k).1 hA.d).1 hA.n).1 hA.s).2) (.int .u8 ((m.oct (m.num (m.num (m.num (m.num (m.num (m.num (m.num (m.flag σ4 has).1 fr).1 foff).1 hA.mo).1 hA.k).1 hA.d).1 hA.n).1 hA.s).1 hA.z).2.toNat : Int)) (.int .i64 (m.num (m.oct (m.num (m.num (m.num (m.num (m.num (m.num (m.num (m.flag σ4 has).1 fr).1 foff).1 hA.mo).1 hA.k).1 hA.d).1 hA.n).1 hA.s).1 hA.z).1 hA.v).2) (.string (m.text (m.num (m.oct (m.num (m.num (m.num (m.num (m.num (m.num (m.num (m.flag σ4 has).1 fr).1 foff).1 hA.mo).1 hA.k).1 hA.d).1 hA.n).1 hA.s).1 hA.z).1 hA.v).1 hA.t).2)) 17 (.int .i64 (m.num (hfS m (m.num (m.num (m.flag σ4 has).1 fr).1 foff).1 hA) hB.mo).2) (.int .i64 (m.num (m.num (hfS m (m.num (m.num (m.flag σ4 has).1 fr).1 foff).1 hA) hB.mo).1 hB.k).2) (.int .i64 (m.num (m.num (m.num (hfS m (m.num (m.num (m.flag σ4 has).1 fr).1 foff).1 hA) hB.mo).1 hB.k).1 hB.d).2) (.int .i64 (m.num (m.num (m.num (m.num (hfS m (m.num (m.num (m.flag σ4 has).1 fr).1 foff).1 hA) hB.mo).1 hB.k).1 hB.d).1 hB.n).2) (.int .i64 (m.num (m.num (m.num (m.num (m.num (hfS m (m.num (m.num (m.flag σ4 has).1 fr).1 foff).1 hA) hB.mo).1 hB.k).1 hB.d).1 hB.n).1 hB.s).2) (.int .u8 ((m.oct (m.num (m.num (m.num (m.num (m.num (hfS m (m.num (m.num (m.flag σ4 has).1 fr).1 foff).1 hA) hB.mo).1 hB.k).1 hB.d).1 hB.n).1 hB.s).1 hB.z).2.toNat : Int)) (.int .i64 (m.num (m.oct (m.num (m.num (m.num (m.num (m.num (hfS m (m.num (m.num (m.flag σ4 has).1 fr).1 foff).1 hA) hB.mo).1 hB.k).1 hB.d).1 hB.n).1 hB.s).1 hB.z).1 hB.v).2) (.string (m.text (m.num (m.oct (m.num (m.num (m.num (m.num (m.num (hfS m (m.num (m.num (m.flag σ4 has).1 fr).1 foff).1 hA) hB.mo).1 hB.k).1 hB.d).1 hB.n).1 hB.s).1 hB.z).1 hB.v).1 hB.t).2)) 46 (0, 0)) ∧ W'.ownsRow m.lw 23 4 v' E.length (trCs E) ∧ KT3 bb tb W W' := by
  have KB : Hid (m.ok (hfS m (hfS m (m.num (m.num (m.flag σ4 has).1 fr).1 foff).1 hA) hB)) := HK
  have KA : Hid (m.ok (hfS m (m.num (m.num (m.flag σ4 has).1 fr).1 foff).1 hA)) := ok_half m _ hB HK.out
  have K7 : m.ok (m.num (m.num (m.flag σ4 has).1 fr).1 foff).1 := ok_half m _ hA KA.out
  have K6 : m.ok (m.num (m.flag σ4 has).1 fr).1 := m.bN _ _ K7
  have K5a : m.ok (m.flag σ4 has).1 := m.bN _ _ K6
  have K4 : m.ok σ4 := m.bF _ _ K5a
  have K3' : m.ok σ3 := ok_loop m (NK - 0) L σ3 (by rw [HLP.out]; exact K4)
  have K3 : m.ok (m.num σ2 (n0 : Int)).1 := by rw [h3]; exact K3'
  have K2 : m.ok (m.text (m.flag (m.num σ1 off).1 dst).1 ab).1 := by rw [show (m.text (m.flag (m.num σ1 off).1 dst).1 ab).1 = σ2 from h2]; exact m.bN _ _ K3
  have K1 : m.ok (m.text σ nm).1 := by rw [show (m.text σ nm).1 = σ1 from h1]; exact m.bN _ _ (m.bF _ _ (m.bT _ _ K2))
  clear K3'
  have e1 := m.eN
  have e2 := m.eF
  have e3 := m.eT
  have hS0 : Hid (m.St W σ) := hS
  have htt : ∀ cs fz, W.heap[tb]? ≠ some (.cells cs 23 fz) := fun _ _ e => by rw [hblk.out] at e; cases e
  obtain ⟨q, hq⟩ : ∃ q, W.heap.size = q := ⟨_, rfl⟩
  have hq1 : q ≠ bb := by have := (m.lt _ _ hS.out).1; omega
  have hq2 : q ≠ tb := by have := (Array.getElem?_eq_some_iff.1 hblk.out).1; omega
  have P0 : Hid (PS m W q tb 46 (W.alloc (.cells m.agg 63)) σ cs) := by
    have hb := (Below.refl _ W).alloc (Nat.le_refl _) (.cells m.agg 63)
    exact ⟨m.below _ _ _ hS.out hb, blk_below hb hblk.out, by rw [← hq]; exact World.alloc_heap_new W _, KT2.of_below hb⟩
  clear hS hblk HK
  go_enter Tryd.func12, Tryd.ntmps12
  go_wp2_with fail
  clear hq
  refine gen_code (fun w1 => PS m W q tb 46 w1 σ cs) P0.out ?_
  clear P0
  rintro w1 P0
  have P0 : Hid (PS m W q tb 46 w1 σ cs) := P0
  refine wp_region_held_drew (S := PB q m.agg) (by kernel_rfl) (P0.out.mv (below_drew1 _)).box (fun hHeld => ?_)
  have P0d : Hid (PS m W q tb 46 w1.drew _ _) := P0.out.mv (below_drew1 w1)
  refine wpAnyH_take (i := 0) (v := ?_) (oi := { dst := some 7, op := _, type := _, pos := _, after := _, guard := none }) rfl (by kernel_rfl) (by kernel_rfl) (by kernel_rfl) (fun _ _ _ h => h) (Or.inl ⟨by kernel_rfl, ?_⟩) (by assumption) ?_
  case refine_2 => (intro w9 hSw; clear hSw; go_simp; try with_reducible rfl)
  simp only [Act.put, List.setIfInBounds_toArray, List.set_cons_zero, List.set_cons_succ]
  refine wpAnyH_take (i := 1) (v := ?_) (oi := { dst := some 8, op := _, type := _, pos := _, after := _, guard := none }) rfl (by kernel_rfl) (by kernel_rfl) (by kernel_rfl) (fun _ _ _ h => h) (Or.inl ⟨by kernel_rfl, ?_⟩) (by assumption) ?_
  case refine_2 => (intro w9 hSw; obtain ⟨z0, z1, z2, z3⟩ := PB.c hSw; go_simp; try with_reducible rfl)
  simp only [Act.put, List.setIfInBounds_toArray, List.set_cons_zero, List.set_cons_succ]
  refine wpAnyH_take (i := 2) (v := ?_) (oi := { dst := some 9, op := _, type := _, pos := _, after := _, guard := none }) rfl (by kernel_rfl) (by kernel_rfl) (by kernel_rfl) (fun _ _ _ h => h) (Or.inl ⟨by kernel_rfl, ?_⟩) (by assumption) ?_
  case refine_2 => (intro w9 hSw; clear hSw; go_simp; try with_reducible rfl)
  simp only [Act.put, List.setIfInBounds_toArray, List.set_cons_zero, List.set_cons_succ]
  refine wpAnyH_take (i := 3) (v := ?_) (oi := { dst := some 10, op := _, type := _, pos := _, after := _, guard := none }) rfl (by kernel_rfl) (by kernel_rfl) (by kernel_rfl) (fun _ _ _ h => h) (Or.inl ⟨by kernel_rfl, ?_⟩) (by assumption) ?_
  case refine_2 => (intro w9 hSw; clear hSw; go_simp; try with_reducible rfl)
  simp only [Act.put, List.setIfInBounds_toArray, List.set_cons_zero, List.set_cons_succ]
  refine wpAnyH_take (i := 4) (v := ?_) (oi := { dst := some 11, op := _, type := _, pos := _, after := _, guard := none }) rfl (by kernel_rfl) (by kernel_rfl) (by kernel_rfl) (fun _ _ _ h => h) (Or.inl ⟨by kernel_rfl, ?_⟩) (by assumption) ?_
  case refine_2 => (intro w9 hSw; clear hSw; go_simp; try with_reducible rfl)
  simp only [Act.put, List.setIfInBounds_toArray, List.set_cons_zero, List.set_cons_succ]
  refine wpAnyH_ready (rs := [5]) (by kernel_rfl) (by simp) (AllReadyH.cons (o := { dst := some 12, op := _, type := _, pos := _, after := _, guard := none }) rfl (fun K hK => ?_) AllReadyH.nil)
  go_simp
  refine (m.hT _ _ tb 0 _ 46 nm P0d.out.st K1 P0d.out.blk hb1 hb2 (by decide) hlw hc0).mono ?_
  rintro e v1 ⟨⟨r1, rfl⟩, hst, hblk, hk2⟩
  have P1 : Hid (PS m W q tb 46 v1 σ1 _) := ⟨by have h := hst; rw [show (m.text σ nm).1 = σ1 from h1] at h; exact h, hblk, hk2.blk P0d.out.box hq1 hq2 (by decide), P0d.out.kt.trans hk2⟩
  refine hK.out _ _ P1.out.box (fun hHeld => ?_)
  clear hK K hHeld hst hblk hk2 P0 P0d
  refine wpAnyH_done (by kernel_rfl) ?_ _
  go_wp2_with fail
  refine wp_region_held_drew (S := PB q m.agg) (by kernel_rfl) (P1.out.mv (below_drew1 _)).box (fun hHeld => ?_)
  have P1d : Hid (PS m W q tb 46 v1.drew _ _) := P1.out.mv (below_drew1 v1)
  refine wpAnyH_take (i := 0) (v := ?_) (oi := { dst := some 13, op := _, type := _, pos := _, after := _, guard := none }) rfl (by kernel_rfl) (by kernel_rfl) (by kernel_rfl) (fun _ _ _ h => h) (Or.inl ⟨by kernel_rfl, ?_⟩) (by assumption) ?_
  case refine_2 => (intro w9 hSw; obtain ⟨z0, z1, z2, z3⟩ := PB.c hSw; go_simp; try with_reducible rfl)
  simp only [Act.put, List.setIfInBounds_toArray, List.set_cons_zero, List.set_cons_succ]
  refine wpAnyH_take (i := 1) (v := ?_) (oi := { dst := some 14, op := _, type := _, pos := _, after := _, guard := none }) rfl (by kernel_rfl) (by kernel_rfl) (by kernel_rfl) (fun _ _ _ h => h) (Or.inl ⟨by kernel_rfl, ?_⟩) (by assumption) ?_
  case refine_2 => (intro w9 hSw; clear hSw; go_simp; try with_reducible rfl)
  simp only [Act.put, List.setIfInBounds_toArray, List.set_cons_zero, List.set_cons_succ]
  refine wpAnyH_take (i := 2) (v := ?_) (oi := { dst := some 15, op := _, type := _, pos := _, after := _, guard := none }) rfl (by kernel_rfl) (by kernel_rfl) (by kernel_rfl) (fun _ _ _ h => h) (Or.inl ⟨by kernel_rfl, ?_⟩) (by assumption) ?_
  case refine_2 => (intro w9 hSw; clear hSw; go_simp; try with_reducible rfl)
  simp only [Act.put, List.setIfInBounds_toArray, List.set_cons_zero, List.set_cons_succ]
  refine wpAnyH_take (i := 3) (v := ?_) (oi := { dst := some 16, op := _, type := _, pos := _, after := _, guard := none }) rfl (by kernel_rfl) (by kernel_rfl) (by kernel_rfl) (fun _ _ _ h => h) (Or.inl ⟨by kernel_rfl, ?_⟩) (by assumption) ?_
  case refine_2 => (intro w9 hSw; clear hSw; go_simp; try with_reducible rfl)
  simp only [Act.put, List.setIfInBounds_toArray, List.set_cons_zero, List.set_cons_succ]
  refine wpAnyH_ready (rs := [4]) (by kernel_rfl) (by simp) (AllReadyH.cons (o := { dst := some 17, op := _, type := _, pos := _, after := _, guard := none }) rfl (fun K hK => ?_) AllReadyH.nil)
  go_simp
  refine (stand_any m _ _ tb 1 _ 46 off dst ab P1d.out.st P1d.out.blk hb1 hb2 (by decide) hlw (by simp [hc2]) (by simp [hc3]) (by simp [hc4]) K2).mono ?_
  rintro e v2 ⟨⟨r2, rfl⟩, hst, hblk, hk2⟩
  have P2 : Hid (PS m W q tb 46 v2 σ2 _) := ⟨by have h := hst; rw [show (m.text (m.flag (m.num σ1 off).1 dst).1 ab).1 = σ2 from h2] at h; exact h, hblk, hk2.blk P1d.out.box hq1 hq2 (by decide), P1d.out.kt.trans hk2⟩
  refine hK.out _ _ P2.out.box (fun hHeld => ?_)
  clear hK K hHeld hst hblk hk2 P1 P1d
  refine wpAnyH_done (by kernel_rfl) ?_ _
  have c5 := cell_of P2.out.blk (i := 5) (v := .slice ao n0 c0) (by simp [hc5])
  obtain ⟨z0, z1, z2, z3⟩ := PB.c P2.out.box
  have hlt : q < v2.heap.size := (Array.getElem?_eq_some_iff.1 P2.out.box).1
  go_wp2_with fail
  have hbc : Below v2.heap.size v2 (v2.alloc (.cells #[.int .i64 (n0 : Int)] 2)) := (Below.refl _ v2).alloc (Nat.le_refl _) _
  have P3 : Hid (PS m W q tb 46 (v2.alloc (.cells #[.int .i64 (n0 : Int)] 2)) σ2 _) := P2.out.mv hbc
  obtain ⟨cb, hcb⟩ : ∃ cb, v2.heap.size = cb := ⟨_, rfl⟩
  rw [hcb]
  have hcb1 : cb ≠ bb := by have := (m.lt _ _ P2.out.st).1; omega
  have hcb2 : cb ≠ pb := by have := (m.lt _ _ P2.out.st).2; omega
  have hcb3 : cb ≠ tb := by have := (Array.getElem?_eq_some_iff.1 P2.out.blk).1; omega
  have hcb4 : cb ≠ q := by have := (Array.getElem?_eq_some_iff.1 P2.out.box).1; omega
  have hcbk : (v2.alloc (.cells #[.int .i64 (n0 : Int)] 2)).heap[cb]? = some (.cells #[.int .i64 (n0 : Int)] 2 (0, 0)) := by rw [← hcb]; exact World.alloc_heap_new v2 _
  refine (m.hN _ _ cb 0 _ 2 (n0 : Int) P3.out.st K3 hcbk hcb1 hcb2 (by decide) (by have := m.le _ _ P2.out.st; omega) rfl).mono ?_
  rintro e v4 ⟨⟨r4, rfl⟩, hst, hblk, hk2⟩
  rw [h3] at hst hblk
  have P4 : Hid (PS m W q tb 46 v4 σ3 _) := ⟨hst, hk2.blk P3.out.blk hb1 hcb3.symm (by decide), hk2.blk P3.out.box hq1 hcb4.symm (by decide), P3.out.kt.side hk2 (by have := P2.out.kt.1; omega)⟩
  have cc : v4.cell? ⟨cb, 0, none⟩ = some (.int .i64 cnt) := cell_of hblk (by simp)
  have HOW4 : v4.ownsRow m.lw 23 4 (.slice ao n0 c0) n0 (trCs L) := own_kt HOW.out P4.out.kt (m.ty _ _ hS0.out) htt
  clear hst hblk hk2 P3 P2 hbc hcbk
  go_wp2_with fail
  have hown4 : v4.ownsRow m.lw 23 4 (.slice ao n0 c0) n0 (trCs L) := HOW4
  obtain ⟨TT, hTT⟩ : ∃ TT, ((((cs.setIfInBounds 0 (.string (m.text σ nm).2)).setIfInBounds (1 + 1) (.int .i64 (m.num σ1 off).2)).setIfInBounds (1 + 2) (.bool (m.flag (m.num σ1 off).1 dst).2)).setIfInBounds (1 + 3) (.string (m.text (m.flag (m.num σ1 off).1 dst).1 ab).2)) = TT := ⟨_, rfl⟩
  rw [hTT] at P4
  have hTz : TT.size = cs.size := by rw [← hTT]; simp
  have hT5 : 5 < TT.size := by rw [hTz]; exact (Array.getElem?_eq_some_iff.1 hc5).1
  have f7TT : TT[7]? = some (.int .i64 fr) := by rw [← hTT]; simp [hc7]
  have f8TT : TT[8]? = some (.int .i64 foff) := by rw [← hTT]; simp [hc8]
  have fA0TT : TT[9]? = some (.int .i64 hA.mo) := by rw [← hTT]; simp [hcA0]
  have fA1TT : TT[10]? = some (.int .i64 hA.k) := by rw [← hTT]; simp [hcA1]
  have fA2TT : TT[11]? = some (.int .i64 hA.d) := by rw [← hTT]; simp [hcA2]
  have fA3TT : TT[12]? = some (.int .i64 hA.n) := by rw [← hTT]; simp [hcA3]
  have fA4TT : TT[13]? = some (.int .i64 hA.s) := by rw [← hTT]; simp [hcA4]
  have fA5TT : TT[14]? = some (.int .u8 (hA.z.toNat : Int)) := by rw [← hTT]; simp [hcA5]
  have fA6TT : TT[15]? = some (.int .i64 hA.v) := by rw [← hTT]; simp [hcA6]
  have fA7TT : TT[16]? = some (.string hA.t) := by rw [← hTT]; simp [hcA7]
  have fB0TT : TT[17]? = some (.int .i64 hB.mo) := by rw [← hTT]; simp [hcB0]
  have fB1TT : TT[18]? = some (.int .i64 hB.k) := by rw [← hTT]; simp [hcB1]
  have fB2TT : TT[19]? = some (.int .i64 hB.d) := by rw [← hTT]; simp [hcB2]
  have fB3TT : TT[20]? = some (.int .i64 hB.n) := by rw [← hTT]; simp [hcB3]
  have fB4TT : TT[21]? = some (.int .i64 hB.s) := by rw [← hTT]; simp [hcB4]
  have fB5TT : TT[22]? = some (.int .u8 (hB.z.toNat : Int)) := by rw [← hTT]; simp [hcB5]
  have fB6TT : TT[23]? = some (.int .i64 hB.v) := by rw [← hTT]; simp [hcB6]
  have fB7TT : TT[24]? = some (.string hB.t) := by rw [← hTT]; simp [hcB7]
  have hT6 : TT[6]? = some (.bool has) := by rw [← hTT]; simp [hc6]
  have hT6l : 6 < TT.size := (Array.getElem?_eq_some_iff.1 hT6).1
  have hTv : TT[5]? = some (.slice ao n0 c0) := by rw [← hTT]; simp [hc5]
  have PT0 : Hid (PT m W q tb v4 σ3 TT (.slice ao n0 c0) L) := ⟨P4.out.st, by rw [set_same hTv]; exact P4.out.blk, P4.out.box, by rw [hL]; exact hown4, KT3.of_kt2 P4.out.kt⟩
  have HTT : Hid (((((cs.setIfInBounds 0 (.string (m.text σ nm).2)).setIfInBounds (1 + 1) (.int .i64 (m.num σ1 off).2)).setIfInBounds (1 + 2) (.bool (m.flag (m.num σ1 off).1 dst).2)).setIfInBounds (1 + 3) (.string (m.text (m.flag (m.num σ1 off).1 dst).1 ab).2)) = TT) := hTT
  clear hTT P4 hown4 HOW4
  go_loopw [28] (fun iv wr => ∃ (j : Nat) (σj : List UInt8) (D R : List TrR) (vj : Value), iv = .int .i64 (j : Int) ∧ j ≤ NK ∧ D.length = j ∧ n0 ≤ D.length + R.length ∧ Hid (PT m W q tb wr σj TT vj (D ++ R)) ∧ Hid (loopF m (NK - j) R σj = (σ4, E.drop j)) ∧ Hid (D = E.take j)) (fun iv _ => NK - (intOf iv).toNat)
  case atStart => exact ⟨0, σ3, [], L, .slice ao n0 c0, rfl, Nat.zero_le _, rfl, by simp [hL], PT0, HLP, rfl⟩
  case round =>
    obtain ⟨j, σj, D, R, vj, rfl, hj, hjn, hnn, HP, HLj, HDj⟩ := hrel
    by_cases hjK : j < NK
    · have hjm : (j : Int) < min cnt 4096 := by omega
      obtain ⟨kk, hkk⟩ : ∃ kk, NK - j = kk + 1 := ⟨NK - j - 1, by omega⟩
      rw [hkk] at HLj
      cases R with
      | cons x R =>
        obtain ⟨n, hn⟩ : ∃ n, (D ++ x :: R).length = n := ⟨_, rfl⟩
        have hn1 : D.length < n := by rw [← hn]; simp
        have hown9 := HP.out.own
        rw [hn] at hown9
        obtain ⟨g, cap, cur, hv9, hgl, hg9, hcap, hmax, hcz, htk⟩ := own_form4 hown9 (by omega)
        subst hv9
        have HG : Hid (wr.heap[g]? = some (.cells cur 23 (0, 0))) := hg9
        clear hown9 hg9
        have hmax' : cap ≤ 9223372036854775807 := hmax
        have hst9 := loop_step HLj.out HDj.out
        have HLn : Hid (loopF m (NK - (j + 1)) R (trF m σj x).1 = (σ4, E.drop (j + 1))) := by have h := (hst9 hjn).1; rw [show NK - (j + 1) = kk by omega]; exact h
        have HDn : Hid (D ++ [(trF m σj x).2] = E.take (j + 1)) := (hst9 hjn).2
        have KTR : m.ok (trF m σj x).1 := ok_loop m kk R _ (by rw [show loopF m kk R (trF m σj x).1 = (σ4, E.drop (j + 1)) from (hst9 hjn).1]; exact K4)
        clear hst9
        obtain ⟨hpb9, z5⟩ := HP.out.s5 hT5
        have hjn2 : ((j : Int) == (n : Int)) = false := by rw [beq_eq_false_iff_ne]; omega
        have hj0 : ¬ ((j : Int) < 0) := by omega
        clear hpb9
        go_wp2_with fail
        have hgbb : g ≠ bb := by rintro rfl; exact (m.ty _ _ HP.out.st).1 _ _ HG.out
        have hgpb : g ≠ pb := by rintro rfl; exact (m.ty _ _ HP.out.st).2 _ _ HG.out
        have hgtb : g ≠ tb := by rintro rfl; rw [HP.out.tbk] at HG; cases HG.out
        have hgq : g ≠ q := by rintro rfl; have h9 := HP.out.box; unfold PB at h9; rw [h9] at HG; cases HG.out
        have HC0 := row_get htk hn 0 (by decide) rfl
        rw [hjn, Nat.add_zero] at HC0
        have KT9 : Hid (m.ok (trF m σj x).1) := KTR
        have KN : m.ok (m.num σj x.at_).1 := ok_tr m σj x KT9.out
        refine wp_region_held_drew (S := S5 q m.agg tb (.slice (some ⟨g, 0, none⟩) n cap)) (by kernel_rfl) ((HP.out.mv (below_drew1 _)).s5 hT5) (fun hHeld => ?_)
        have HPd : Hid (PT m W q tb wr.drew σj TT (.slice (some ⟨g, 0, none⟩) n cap) (D ++ x :: R)) := HP.out.mv (below_drew1 wr)
        have HGd : Hid (wr.drew.heap[g]? = some (.cells cur 23 (0, 0))) := HG.out
        refine wpAnyH_take (i := 0) (v := ?_) (oi := { dst := some 48, op := _, type := _, pos := _, after := _, guard := none }) rfl (by kernel_rfl) (by kernel_rfl) (by kernel_rfl) (fun _ _ _ h => h) (Or.inl ⟨by kernel_rfl, ?_⟩) (by assumption) ?_
        case refine_2 => (intro w9 hSw; clear hSw; (go_simp); (try omega); try with_reducible rfl)
        simp only [Act.put, List.setIfInBounds_toArray, List.set_cons_zero, List.set_cons_succ]
        refine wpAnyH_take (i := 1) (v := ?_) (oi := { dst := some 49, op := _, type := _, pos := _, after := _, guard := none }) rfl (by kernel_rfl) (by kernel_rfl) (by kernel_rfl) (fun _ _ _ h => h) (Or.inl ⟨by kernel_rfl, ?_⟩) (by assumption) ?_
        case refine_2 => (intro w9 hSw; obtain ⟨hpb9, z5⟩ := hSw; obtain ⟨z0, z1, z2, z3⟩ := PB.c hpb9; clear hpb9; (go_simp); (try omega); try with_reducible rfl)
        simp only [Act.put, List.setIfInBounds_toArray, List.set_cons_zero, List.set_cons_succ]
        refine wpAnyH_take (i := 2) (v := ?_) (oi := { dst := some 50, op := _, type := _, pos := _, after := _, guard := none }) rfl (by kernel_rfl) (by kernel_rfl) (by kernel_rfl) (fun _ _ _ h => h) (Or.inl ⟨by kernel_rfl, ?_⟩) (by assumption) ?_
        case refine_2 => (intro w9 hSw; clear hSw; (go_simp); (try omega); try with_reducible rfl)
        simp only [Act.put, List.setIfInBounds_toArray, List.set_cons_zero, List.set_cons_succ]
        refine wpAnyH_take (i := 3) (v := ?_) (oi := { dst := some 51, op := _, type := _, pos := _, after := _, guard := none }) rfl (by kernel_rfl) (by kernel_rfl) (by kernel_rfl) (fun _ _ _ h => h) (Or.inl ⟨by kernel_rfl, ?_⟩) (by assumption) ?_
        case refine_2 => (intro w9 hSw; clear hSw; (go_simp); (try omega); try with_reducible rfl)
        simp only [Act.put, List.setIfInBounds_toArray, List.set_cons_zero, List.set_cons_succ]
        refine wpAnyH_take (i := 4) (v := ?_) (oi := { dst := some 52, op := _, type := _, pos := _, after := _, guard := none }) rfl (by kernel_rfl) (by kernel_rfl) (by kernel_rfl) (fun _ _ _ h => h) (Or.inl ⟨by kernel_rfl, ?_⟩) (by assumption) ?_
        case refine_2 => (intro w9 hSw; clear hSw; (go_simp); (try omega); try with_reducible rfl)
        simp only [Act.put, List.setIfInBounds_toArray, List.set_cons_zero, List.set_cons_succ]
        refine wpAnyH_take (i := 5) (v := ?_) (oi := { dst := some 53, op := _, type := _, pos := _, after := _, guard := none }) rfl (by kernel_rfl) (by kernel_rfl) (by kernel_rfl) (fun _ _ _ h => h) (Or.inl ⟨by kernel_rfl, ?_⟩) (by assumption) ?_
        case refine_2 => (intro w9 hSw; obtain ⟨hpb9, z5⟩ := hSw; obtain ⟨z0, z1, z2, z3⟩ := PB.c hpb9; clear hpb9; (go_simp); (try omega); try with_reducible rfl)
        simp only [Act.put, List.setIfInBounds_toArray, List.set_cons_zero, List.set_cons_succ]
        refine wpAnyH_take (i := 6) (v := ?_) (oi := { dst := some 54, op := _, type := _, pos := _, after := _, guard := none }) rfl (by kernel_rfl) (by kernel_rfl) (by kernel_rfl) (fun _ _ _ h => h) (Or.inl ⟨by kernel_rfl, ?_⟩) (by assumption) ?_
        case refine_2 => (intro w9 hSw; clear hSw; (go_simp); (try omega); try with_reducible rfl)
        simp only [Act.put, List.setIfInBounds_toArray, List.set_cons_zero, List.set_cons_succ]
        refine wpAnyH_take (i := 7) (v := .pointer (some ⟨g, j * 4, none⟩)) (oi := { dst := some 55, op := _, type := _, pos := _, after := _, guard := none }) rfl (by kernel_rfl) (by kernel_rfl) (by kernel_rfl) (fun _ _ _ h => h) (Or.inl ⟨by kernel_rfl, ?_⟩) (by assumption) ?_
        case refine_1 => (intro w9 hSw; clear hSw; (go_simp); (try omega); try with_reducible rfl)
        simp only [Act.put, List.setIfInBounds_toArray, List.set_cons_zero, List.set_cons_succ]
        refine wpAnyH_take (i := 8) (v := ?_) (oi := { dst := some 56, op := _, type := _, pos := _, after := _, guard := none }) rfl (by kernel_rfl) (by kernel_rfl) (by kernel_rfl) (fun _ _ _ h => h) (Or.inl ⟨by kernel_rfl, ?_⟩) (by assumption) ?_
        case refine_2 => (intro w9 hSw; clear hSw; (go_simp); (try omega); try with_reducible rfl)
        simp only [Act.put, List.setIfInBounds_toArray, List.set_cons_zero, List.set_cons_succ]
        refine wpAnyH_ready (rs := [9]) (by kernel_rfl) (by simp) (AllReadyH.cons (o := { dst := some 57, op := _, type := _, pos := _, after := _, guard := none }) rfl (fun K hK => ?_) AllReadyH.nil)
        go_simp
        refine (m.hN _ _ g (j * 4) cur 23 x.at_ HPd.out.st KN HGd.out hgbb hgpb (by decide) hgl HC0).mono ?_
        rintro e y1 ⟨⟨r1, rfl⟩, hst, hblk, hk2⟩
        have HP1 : Hid (PT m W q tb y1 (m.num σj x.at_).1 TT (.slice (some ⟨g, 0, none⟩) n cap) (D ++ ⟨(m.num σj x.at_).2, x.off, x.dst, x.ab⟩ :: R)) := ⟨hst, hk2.blk HPd.out.tbk hb1 (Ne.symm hgtb) (by decide), hk2.blk HPd.out.box hq1 (Ne.symm hgq) (by decide), by
          have hh := own_set (i := 0) (y := ⟨(m.num σj x.at_).2, x.off, x.dst, x.ab⟩) (by decide) hn hgl hcap hmax hcz htk rfl (by rw [Nat.add_zero, hjn]; exact hblk)
          have hn' : (D ++ (⟨(m.num σj x.at_).2, x.off, x.dst, x.ab⟩ : TrR) :: R).length = n := by rw [← hn]; simp
          rw [hn']; exact hh, HPd.out.kt.trans (KT3.of_row hk2 HGd.out)⟩
        have hg1 : y1.heap[g]? = some (.cells (cur.setIfInBounds (j * 4) (.int .i64 (m.num σj x.at_).2)) 23 (0, 0)) := hblk
        refine hK.out _ _ (HP1.out.s5 hT5) (fun hHeld => ?_)
        clear hK K hHeld hst hblk hk2 HP HPd HGd
        refine wpAnyH_done (by kernel_rfl) ?_ _
        go_wp2_with fail
        refine wp_region_held_drew (S := S5 q m.agg tb (.slice (some ⟨g, 0, none⟩) n cap)) (by kernel_rfl) ((HP1.out.mv (below_drew1 _)).s5 hT5) (fun hHeld => ?_)
        have HP2d : Hid (PT m W q tb y1.drew _ TT (.slice (some ⟨g, 0, none⟩) n cap) (D ++ ⟨(m.num σj x.at_).2, x.off, x.dst, x.ab⟩ :: R)) := HP1.out.mv (below_drew1 y1)
        obtain ⟨cur2, hcur2⟩ : ∃ cur2, cur.setIfInBounds (j * 4) (.int .i64 (m.num σj x.at_).2) = cur2 := ⟨_, rfl⟩
        rw [hcur2] at hg1
        have HG2d : Hid (y1.drew.heap[g]? = some (.cells cur2 23 (0, 0))) := hg1
        have hn2 : (D ++ (⟨(m.num σj x.at_).2, x.off, x.dst, x.ab⟩ : TrR) :: R).length = n := by rw [← hn]; simp
        have hcz2 : cur2.size = cap * 4 := by rw [← hcur2]; simpa using hcz
        have htk2 : cur2.toList.take (n * 4) = trCs (D ++ (⟨(m.num σj x.at_).2, x.off, x.dst, x.ab⟩ : TrR) :: R) := by
          have lt : D.length * 4 + 0 < n * 4 := by rw [← hn]; simp <;> omega
          rw [← hcur2, Array.toList_setIfInBounds, ← hjn, show D.length * 4 = D.length * 4 + 0 from rfl, take_set lt, htk, trCs_set D R x 0 (by decide), show (trC x).set 0 (.int .i64 (m.num σj x.at_).2) = trC ⟨(m.num σj x.at_).2, x.off, x.dst, x.ab⟩ from rfl, trCs_back]
        have HC1 := row_get htk2 hn2 1 (by decide) rfl
        have HC2 := row_get htk2 hn2 2 (by decide) rfl
        have HC3 := row_get htk2 hn2 3 (by decide) rfl
        rw [hjn] at HC1 HC2 HC3
        clear HP1 hg1 hcur2
        refine wpAnyH_take (i := 0) (v := ?_) (oi := { dst := some 58, op := _, type := _, pos := _, after := _, guard := none }) rfl (by kernel_rfl) (by kernel_rfl) (by kernel_rfl) (fun _ _ _ h => h) (Or.inl ⟨by kernel_rfl, ?_⟩) (by assumption) ?_
        case refine_2 => (intro w9 hSw; obtain ⟨hpb9, z5⟩ := hSw; obtain ⟨z0, z1, z2, z3⟩ := PB.c hpb9; clear hpb9; (go_simp); (try omega); try with_reducible rfl)
        simp only [Act.put, List.setIfInBounds_toArray, List.set_cons_zero, List.set_cons_succ]
        refine wpAnyH_take (i := 1) (v := ?_) (oi := { dst := some 59, op := _, type := _, pos := _, after := _, guard := none }) rfl (by kernel_rfl) (by kernel_rfl) (by kernel_rfl) (fun _ _ _ h => h) (Or.inl ⟨by kernel_rfl, ?_⟩) (by assumption) ?_
        case refine_2 => (intro w9 hSw; clear hSw; (go_simp); (try omega); try with_reducible rfl)
        simp only [Act.put, List.setIfInBounds_toArray, List.set_cons_zero, List.set_cons_succ]
        refine wpAnyH_take (i := 2) (v := ?_) (oi := { dst := some 60, op := _, type := _, pos := _, after := _, guard := none }) rfl (by kernel_rfl) (by kernel_rfl) (by kernel_rfl) (fun _ _ _ h => h) (Or.inl ⟨by kernel_rfl, ?_⟩) (by assumption) ?_
        case refine_2 => (intro w9 hSw; clear hSw; (go_simp); (try omega); try with_reducible rfl)
        simp only [Act.put, List.setIfInBounds_toArray, List.set_cons_zero, List.set_cons_succ]
        refine wpAnyH_take (i := 3) (v := ?_) (oi := { dst := some 61, op := _, type := _, pos := _, after := _, guard := none }) rfl (by kernel_rfl) (by kernel_rfl) (by kernel_rfl) (fun _ _ _ h => h) (Or.inl ⟨by kernel_rfl, ?_⟩) (by assumption) ?_
        case refine_2 => (intro w9 hSw; clear hSw; (go_simp); (try omega); try with_reducible rfl)
        simp only [Act.put, List.setIfInBounds_toArray, List.set_cons_zero, List.set_cons_succ]
        refine wpAnyH_take (i := 4) (v := ?_) (oi := { dst := some 62, op := _, type := _, pos := _, after := _, guard := none }) rfl (by kernel_rfl) (by kernel_rfl) (by kernel_rfl) (fun _ _ _ h => h) (Or.inl ⟨by kernel_rfl, ?_⟩) (by assumption) ?_
        case refine_2 => (intro w9 hSw; obtain ⟨hpb9, z5⟩ := hSw; obtain ⟨z0, z1, z2, z3⟩ := PB.c hpb9; clear hpb9; (go_simp); (try omega); try with_reducible rfl)
        simp only [Act.put, List.setIfInBounds_toArray, List.set_cons_zero, List.set_cons_succ]
        refine wpAnyH_take (i := 5) (v := ?_) (oi := { dst := some 63, op := _, type := _, pos := _, after := _, guard := none }) rfl (by kernel_rfl) (by kernel_rfl) (by kernel_rfl) (fun _ _ _ h => h) (Or.inl ⟨by kernel_rfl, ?_⟩) (by assumption) ?_
        case refine_2 => (intro w9 hSw; clear hSw; (go_simp); (try omega); try with_reducible rfl)
        simp only [Act.put, List.setIfInBounds_toArray, List.set_cons_zero, List.set_cons_succ]
        refine wpAnyH_take (i := 6) (v := .pointer (some ⟨g, j * 4, none⟩)) (oi := { dst := some 64, op := _, type := _, pos := _, after := _, guard := none }) rfl (by kernel_rfl) (by kernel_rfl) (by kernel_rfl) (fun _ _ _ h => h) (Or.inl ⟨by kernel_rfl, ?_⟩) (by assumption) ?_
        case refine_1 => (intro w9 hSw; clear hSw; (go_simp); (try omega); try with_reducible rfl)
        simp only [Act.put, List.setIfInBounds_toArray, List.set_cons_zero, List.set_cons_succ]
        refine wpAnyH_ready (rs := [7]) (by kernel_rfl) (by simp) (AllReadyH.cons (o := { dst := some 65, op := _, type := _, pos := _, after := _, guard := none }) rfl (fun K hK => ?_) AllReadyH.nil)
        go_simp
        refine (stand_any m _ _ g (j * 4) cur2 23 x.off x.dst x.ab HP2d.out.st HG2d.out hgbb hgpb (by decide) hgl HC1 HC2 HC3 KT9).mono ?_
        rintro e y3 ⟨⟨r3, rfl⟩, hst, hblk, hk2⟩
        have HP3 : Hid (PT m W q tb y3 (trF m σj x).1 TT (.slice (some ⟨g, 0, none⟩) n cap) (D ++ (trF m σj x).2 :: R)) := ⟨hst, hk2.blk HP2d.out.tbk hb1 (Ne.symm hgtb) (by decide), hk2.blk HP2d.out.box hq1 (Ne.symm hgq) (by decide), by
          have hh := own_set3 (x := ⟨(m.num σj x.at_).2, x.off, x.dst, x.ab⟩) hn2 hgl hcap hmax hcz2 htk2 (by rw [hjn]; exact hblk)
          have hn' : (D ++ (trF m σj x).2 :: R).length = n := by rw [← hn]; simp
          rw [hn']; exact hh, HP2d.out.kt.trans (KT3.of_row hk2 HG2d.out)⟩
        refine hK.out _ _ (HP3.out.s5 hT5) (fun hHeld => ?_)
        clear hK K hHeld hst hblk hk2 HP2d HG2d
        refine wpAnyH_done (by kernel_rfl) ?_ _
        go_wp2_with fail
        exact ⟨⟨j + 1, _, D ++ [(trF m σj x).2], R, .slice (some ⟨g, 0, none⟩) n cap, rfl, by omega, by simp [hjn], by simp at hnn ⊢; omega, by have h := HP3.out; rw [show D ++ (trF m σj x).2 :: R = (D ++ [(trF m σj x).2]) ++ R by simp] at h; exact h, HLn, HDn⟩, by simp [intOf]; omega⟩
      | nil =>
        have hnj : D.length = j := hjn
        have hlolw : m.lo ≤ m.lw := by rcases hgr with h | h; exact h; exfalso; simp at hnn; omega
        have hown9 : wr.ownsRow m.lw 23 4 vj j (trCs (D ++ [])) := by have h := HP.out.own; rw [show (D ++ ([] : List TrR)).length = j by simpa using hjn] at h; exact h
        obtain ⟨ao9, c9, hv9⟩ := own_len4 hown9
        subst hv9
        obtain ⟨hpb9, z5⟩ := HP.out.s5 hT5
        have HO9 : Hid (wr.ownsRow m.lw 23 4 (.slice ao9 j c9) j (trCs (D ++ []))) := hown9
        clear hown9 hpb9
        have hj4 : j ≤ 4096 := by omega
        obtain ⟨i1, hi1, hy0, hy1, hy2⟩ := info_parts infoTr
        have hlw9 := m.le _ _ HP.out.st
        have hZc : (Value.agg #[.int .i64 0, .int .i64 0, .bool false, .string ⟨#[]⟩]).cells.size = 4 := rfl
        go_wp2_with (at_builtin; refine wpList_append_own _ rfl _ _ 24 rfl m.lw 23 i1 (.agg #[.int .i64 0, .int .i64 0, .bool false, .string ⟨#[]⟩]) 4 40 Tryd.underlying24 hi1 hy0 hy1 hy2 hZc (by decide) (.slice ao9 j c9) j (trCs (D ++ [])) rfl (HO9.out.alloc _) ⟨wr.heap.size, 0, none⟩ 1 1 (trC zTr) rfl rfl (cells_of_new wr (trC zTr) 23) (by intro u hu; simp [trC] at hu; rcases hu with rfl | rfl | rfl | rfl <;> rfl) (by unfold maxLen; omega) (by omega) (by simp; omega) ?_)
        intro v' w9 hown' hgrow' _
        obtain ⟨w8, hw8⟩ : ∃ w8, wr.alloc (.cells (trC zTr).toArray 23) = w8 := ⟨_, rfl⟩
        have hgrow : w8.grownBy w9 (Value.slice ao9 j c9).ownBlock := by rw [← hw8]; exact hgrow'
        have hb8 : Below wr.heap.size wr w8 := by rw [← hw8]; exact (Below.refl _ wr).alloc (Nat.le_refl _) _
        have HP8 := HP.out.mv hb8
        have HO8 := own_mv HO9.out hb8
        clear hgrow'
        have hrow : ∀ k, (Value.slice ao9 j c9).ownBlock = some k → m.lw ≤ k ∧ ∃ cs fz, w8.heap[k]? = some (.cells cs 23 fz) := by
          intro k hk
          rcases HO8.2 with ⟨e, _⟩ | ⟨g, cap, cur, e, hb, hg, _⟩
          · rw [e] at hk; simp [Value.ownBlock] at hk
          · rw [e] at hk; simp [Value.ownBlock] at hk; subst hk; exact ⟨hb, _, _, hg⟩
        have hS9 : m.St w9 σj := m.grow _ _ _ _ HP8.st hgrow (fun k hk => by obtain ⟨q1, cs9, fz9, q2⟩ := hrow k hk; exact ⟨by omega, fun e => (m.ty _ _ HP8.st).1 cs9 fz9 (e ▸ q2), fun e => (m.ty _ _ HP8.st).2 cs9 fz9 (e ▸ q2), cs9, _, fz9, q2, by decide⟩)
        have ht9 : w9.heap[tb]? = some (.cells (TT.setIfInBounds 5 (.slice ao9 j c9)) 46 (0, 0)) := (hgrow.block tb (Array.getElem?_eq_some_iff.1 HP8.tbk).1 (fun e => by obtain ⟨_, cs, fz, h2⟩ := hrow tb e.symm; rw [HP8.tbk] at h2; cases h2)).trans HP8.tbk
        have hq9 : PB q m.agg w9 := (hgrow.block q (Array.getElem?_eq_some_iff.1 HP8.box).1 (fun e => by obtain ⟨_, cs, fz, h2⟩ := hrow q e.symm; have h3 := HP8.box; unfold PB at h3; rw [h3] at h2; cases h2)).trans HP8.box
        have hk9 : KT3 bb tb W w9 := HP8.kt.trans (KT3.of_grown hgrow (fun k hk => (hrow k hk).2))
        have hown1 : w9.ownsRow m.lw 23 4 v' (j + 1) (trCs (D ++ zTr :: [])) := by rw [trCs_app, trCs_cons, show trCs [] = [] from rfl, List.append_nil]; exact hown'
        have hlenD : (D ++ zTr :: []).length = j + 1 := by simp [hjn]
        obtain ⟨g1, cap1, cur1, hv1, hgl1, hg1, hcap1, hmax1, hcz1, htk1⟩ := own_form4 hown1 (by omega)
        subst hv1
        have HP3 : Hid (PT m W q tb (w9.setCell ⟨tb, 5, none⟩ (.slice (some ⟨g1, 0, none⟩) (j + 1) cap1)) σj TT (.slice (some ⟨g1, 0, none⟩) (j + 1) cap1) (D ++ zTr :: [])) := ⟨m.set _ _ tb 5 _ 46 _ hS9 ht9 hlo hb1 hb2 (by decide), by have h := setCell_heap (i := 5) (.slice (some ⟨g1, 0, none⟩) (j + 1) cap1) ht9; rw [set_set] at h; exact h, (Below.heap_setCell _ _ _ q (by simpa using hq2)).trans hq9, by
          rw [hlenD]; exact own_set9 hown1 ht9 (by decide), hk9.trans (KT3.of_kt2 (kt_wr2 _ (KT2.refl _ _ _)))⟩
        have c59 := cell_of ht9 (i := 5) (v := .slice ao9 j c9) (by simp [hT5])
        have f59 := fz_of (i := 5) ht9
        clear hown' hgrow hb8 HP8 HO8 hrow hS9 ht9 hq9 hk9 hown1 hgl1 hg1 hcap1 hcz1 htk1 hw8 HO9 HP z5
        have HLj2 : Hid (loopF m (kk + 1) [zTr] σj = (σ4, E.drop j)) := HLj
        clear HLj
        have HLj : Hid (loopF m (kk + 1) [zTr] σj = (σ4, E.drop j)) := HLj2
        clear HLj2
        obtain ⟨x, hx⟩ : ∃ x, zTr = x := ⟨_, rfl⟩
        obtain ⟨R, hR⟩ : ∃ R : List TrR, [] = R := ⟨_, rfl⟩
        rw [hx, hR] at HP3 HLj
        have hRl : R.length = 0 := by rw [← hR]; rfl
        clear hx hR
        have hj0 : ¬ ((j : Int) < 0) := by omega
        go_wp2_with fail
        obtain ⟨wz, hwz⟩ : ∃ wz, w9.setCell ⟨tb, 5, none⟩ (.slice (some ⟨g1, 0, none⟩) (j + 1) cap1) = wz := ⟨_, rfl⟩
        rw [hwz] at HP3 ⊢
        have HP : Hid (PT m W q tb wz σj TT (.slice (some ⟨g1, 0, none⟩) (j + 1) cap1) (D ++ x :: R)) := HP3
        clear HP3 hwz c59 f59
        obtain ⟨vz, hvz⟩ : ∃ vz, Value.slice (some ⟨g1, 0, none⟩) (j + 1) cap1 = vz := ⟨_, rfl⟩
        rw [hvz] at HP ⊢
        clear hvz
        obtain ⟨n, hn⟩ : ∃ n, (D ++ x :: R).length = n := ⟨_, rfl⟩
        have hn1 : D.length < n := by rw [← hn]; simp
        have hown9 := HP.out.own
        rw [hn] at hown9
        obtain ⟨g, cap, cur, hv9, hgl, hg9, hcap, hmax, hcz, htk⟩ := own_form4 hown9 (by omega)
        subst hv9
        have HG : Hid (wz.heap[g]? = some (.cells cur 23 (0, 0))) := hg9
        clear hown9 hg9
        have hmax' : cap ≤ 9223372036854775807 := hmax
        have hst9 := loop_step HLj.out HDj.out
        have HLn : Hid (loopF m (NK - (j + 1)) R (trF m σj x).1 = (σ4, E.drop (j + 1))) := by have h := (hst9 hjn).1; rw [show NK - (j + 1) = kk by omega]; exact h
        have HDn : Hid (D ++ [(trF m σj x).2] = E.take (j + 1)) := (hst9 hjn).2
        have KTR : m.ok (trF m σj x).1 := ok_loop m kk R _ (by rw [show loopF m kk R (trF m σj x).1 = (σ4, E.drop (j + 1)) from (hst9 hjn).1]; exact K4)
        clear hst9
        have hjn2 : j < n := by omega
        have hgbb : g ≠ bb := by rintro rfl; exact (m.ty _ _ HP.out.st).1 _ _ HG.out
        have hgpb : g ≠ pb := by rintro rfl; exact (m.ty _ _ HP.out.st).2 _ _ HG.out
        have hgtb : g ≠ tb := by rintro rfl; rw [HP.out.tbk] at HG; cases HG.out
        have hgq : g ≠ q := by rintro rfl; have h9 := HP.out.box; unfold PB at h9; rw [h9] at HG; cases HG.out
        have HC0 := row_get htk hn 0 (by decide) rfl
        rw [hjn, Nat.add_zero] at HC0
        have KT9 : Hid (m.ok (trF m σj x).1) := KTR
        have KN : m.ok (m.num σj x.at_).1 := ok_tr m σj x KT9.out
        refine wp_region_held_drew (S := S5 q m.agg tb (.slice (some ⟨g, 0, none⟩) n cap)) (by kernel_rfl) ((HP.out.mv (below_drew1 _)).s5 hT5) (fun hHeld => ?_)
        have HPd : Hid (PT m W q tb wz.drew σj TT (.slice (some ⟨g, 0, none⟩) n cap) (D ++ x :: R)) := HP.out.mv (below_drew1 wz)
        have HGd : Hid (wz.drew.heap[g]? = some (.cells cur 23 (0, 0))) := HG.out
        refine wpAnyH_take (i := 0) (v := ?_) (oi := { dst := some 48, op := _, type := _, pos := _, after := _, guard := none }) rfl (by kernel_rfl) (by kernel_rfl) (by kernel_rfl) (fun _ _ _ h => h) (Or.inl ⟨by kernel_rfl, ?_⟩) (by assumption) ?_
        case refine_2 => (intro w9 hSw; clear hSw; (go_simp); (try omega); try with_reducible rfl)
        simp only [Act.put, List.setIfInBounds_toArray, List.set_cons_zero, List.set_cons_succ]
        refine wpAnyH_take (i := 1) (v := ?_) (oi := { dst := some 49, op := _, type := _, pos := _, after := _, guard := none }) rfl (by kernel_rfl) (by kernel_rfl) (by kernel_rfl) (fun _ _ _ h => h) (Or.inl ⟨by kernel_rfl, ?_⟩) (by assumption) ?_
        case refine_2 => (intro w9 hSw; obtain ⟨hpb9, z5⟩ := hSw; obtain ⟨z0, z1, z2, z3⟩ := PB.c hpb9; clear hpb9; (go_simp); (try omega); try with_reducible rfl)
        simp only [Act.put, List.setIfInBounds_toArray, List.set_cons_zero, List.set_cons_succ]
        refine wpAnyH_take (i := 2) (v := ?_) (oi := { dst := some 50, op := _, type := _, pos := _, after := _, guard := none }) rfl (by kernel_rfl) (by kernel_rfl) (by kernel_rfl) (fun _ _ _ h => h) (Or.inl ⟨by kernel_rfl, ?_⟩) (by assumption) ?_
        case refine_2 => (intro w9 hSw; clear hSw; (go_simp); (try omega); try with_reducible rfl)
        simp only [Act.put, List.setIfInBounds_toArray, List.set_cons_zero, List.set_cons_succ]
        refine wpAnyH_take (i := 3) (v := ?_) (oi := { dst := some 51, op := _, type := _, pos := _, after := _, guard := none }) rfl (by kernel_rfl) (by kernel_rfl) (by kernel_rfl) (fun _ _ _ h => h) (Or.inl ⟨by kernel_rfl, ?_⟩) (by assumption) ?_
        case refine_2 => (intro w9 hSw; clear hSw; (go_simp); (try omega); try with_reducible rfl)
        simp only [Act.put, List.setIfInBounds_toArray, List.set_cons_zero, List.set_cons_succ]
        refine wpAnyH_take (i := 4) (v := ?_) (oi := { dst := some 52, op := _, type := _, pos := _, after := _, guard := none }) rfl (by kernel_rfl) (by kernel_rfl) (by kernel_rfl) (fun _ _ _ h => h) (Or.inl ⟨by kernel_rfl, ?_⟩) (by assumption) ?_
        case refine_2 => (intro w9 hSw; clear hSw; (go_simp); (try omega); try with_reducible rfl)
        simp only [Act.put, List.setIfInBounds_toArray, List.set_cons_zero, List.set_cons_succ]
        refine wpAnyH_take (i := 5) (v := ?_) (oi := { dst := some 53, op := _, type := _, pos := _, after := _, guard := none }) rfl (by kernel_rfl) (by kernel_rfl) (by kernel_rfl) (fun _ _ _ h => h) (Or.inl ⟨by kernel_rfl, ?_⟩) (by assumption) ?_
        case refine_2 => (intro w9 hSw; obtain ⟨hpb9, z5⟩ := hSw; obtain ⟨z0, z1, z2, z3⟩ := PB.c hpb9; clear hpb9; (go_simp); (try omega); try with_reducible rfl)
        simp only [Act.put, List.setIfInBounds_toArray, List.set_cons_zero, List.set_cons_succ]
        refine wpAnyH_take (i := 6) (v := ?_) (oi := { dst := some 54, op := _, type := _, pos := _, after := _, guard := none }) rfl (by kernel_rfl) (by kernel_rfl) (by kernel_rfl) (fun _ _ _ h => h) (Or.inl ⟨by kernel_rfl, ?_⟩) (by assumption) ?_
        case refine_2 => (intro w9 hSw; clear hSw; (go_simp); (try omega); try with_reducible rfl)
        simp only [Act.put, List.setIfInBounds_toArray, List.set_cons_zero, List.set_cons_succ]
        refine wpAnyH_take (i := 7) (v := .pointer (some ⟨g, j * 4, none⟩)) (oi := { dst := some 55, op := _, type := _, pos := _, after := _, guard := none }) rfl (by kernel_rfl) (by kernel_rfl) (by kernel_rfl) (fun _ _ _ h => h) (Or.inl ⟨by kernel_rfl, ?_⟩) (by assumption) ?_
        case refine_1 => (intro w9 hSw; clear hSw; (go_simp); (try omega); try with_reducible rfl)
        simp only [Act.put, List.setIfInBounds_toArray, List.set_cons_zero, List.set_cons_succ]
        refine wpAnyH_take (i := 8) (v := ?_) (oi := { dst := some 56, op := _, type := _, pos := _, after := _, guard := none }) rfl (by kernel_rfl) (by kernel_rfl) (by kernel_rfl) (fun _ _ _ h => h) (Or.inl ⟨by kernel_rfl, ?_⟩) (by assumption) ?_
        case refine_2 => (intro w9 hSw; clear hSw; (go_simp); (try omega); try with_reducible rfl)
        simp only [Act.put, List.setIfInBounds_toArray, List.set_cons_zero, List.set_cons_succ]
        refine wpAnyH_ready (rs := [9]) (by kernel_rfl) (by simp) (AllReadyH.cons (o := { dst := some 57, op := _, type := _, pos := _, after := _, guard := none }) rfl (fun K hK => ?_) AllReadyH.nil)
        go_simp
        refine (m.hN _ _ g (j * 4) cur 23 x.at_ HPd.out.st KN HGd.out hgbb hgpb (by decide) hgl HC0).mono ?_
        rintro e y1 ⟨⟨r1, rfl⟩, hst, hblk, hk2⟩
        have HP1 : Hid (PT m W q tb y1 (m.num σj x.at_).1 TT (.slice (some ⟨g, 0, none⟩) n cap) (D ++ ⟨(m.num σj x.at_).2, x.off, x.dst, x.ab⟩ :: R)) := ⟨hst, hk2.blk HPd.out.tbk hb1 (Ne.symm hgtb) (by decide), hk2.blk HPd.out.box hq1 (Ne.symm hgq) (by decide), by
          have hh := own_set (i := 0) (y := ⟨(m.num σj x.at_).2, x.off, x.dst, x.ab⟩) (by decide) hn hgl hcap hmax hcz htk rfl (by rw [Nat.add_zero, hjn]; exact hblk)
          have hn' : (D ++ (⟨(m.num σj x.at_).2, x.off, x.dst, x.ab⟩ : TrR) :: R).length = n := by rw [← hn]; simp
          rw [hn']; exact hh, HPd.out.kt.trans (KT3.of_row hk2 HGd.out)⟩
        have hg1 : y1.heap[g]? = some (.cells (cur.setIfInBounds (j * 4) (.int .i64 (m.num σj x.at_).2)) 23 (0, 0)) := hblk
        refine hK.out _ _ (HP1.out.s5 hT5) (fun hHeld => ?_)
        clear hK K hHeld hst hblk hk2 HP HPd HGd
        refine wpAnyH_done (by kernel_rfl) ?_ _
        go_wp2_with fail
        refine wp_region_held_drew (S := S5 q m.agg tb (.slice (some ⟨g, 0, none⟩) n cap)) (by kernel_rfl) ((HP1.out.mv (below_drew1 _)).s5 hT5) (fun hHeld => ?_)
        have HP2d : Hid (PT m W q tb y1.drew _ TT (.slice (some ⟨g, 0, none⟩) n cap) (D ++ ⟨(m.num σj x.at_).2, x.off, x.dst, x.ab⟩ :: R)) := HP1.out.mv (below_drew1 y1)
        obtain ⟨cur2, hcur2⟩ : ∃ cur2, cur.setIfInBounds (j * 4) (.int .i64 (m.num σj x.at_).2) = cur2 := ⟨_, rfl⟩
        rw [hcur2] at hg1
        have HG2d : Hid (y1.drew.heap[g]? = some (.cells cur2 23 (0, 0))) := hg1
        have hn2 : (D ++ (⟨(m.num σj x.at_).2, x.off, x.dst, x.ab⟩ : TrR) :: R).length = n := by rw [← hn]; simp
        have hcz2 : cur2.size = cap * 4 := by rw [← hcur2]; simpa using hcz
        have htk2 : cur2.toList.take (n * 4) = trCs (D ++ (⟨(m.num σj x.at_).2, x.off, x.dst, x.ab⟩ : TrR) :: R) := by
          have lt : D.length * 4 + 0 < n * 4 := by rw [← hn]; simp <;> omega
          rw [← hcur2, Array.toList_setIfInBounds, ← hjn, show D.length * 4 = D.length * 4 + 0 from rfl, take_set lt, htk, trCs_set D R x 0 (by decide), show (trC x).set 0 (.int .i64 (m.num σj x.at_).2) = trC ⟨(m.num σj x.at_).2, x.off, x.dst, x.ab⟩ from rfl, trCs_back]
        have HC1 := row_get htk2 hn2 1 (by decide) rfl
        have HC2 := row_get htk2 hn2 2 (by decide) rfl
        have HC3 := row_get htk2 hn2 3 (by decide) rfl
        rw [hjn] at HC1 HC2 HC3
        clear HP1 hg1 hcur2
        refine wpAnyH_take (i := 0) (v := ?_) (oi := { dst := some 58, op := _, type := _, pos := _, after := _, guard := none }) rfl (by kernel_rfl) (by kernel_rfl) (by kernel_rfl) (fun _ _ _ h => h) (Or.inl ⟨by kernel_rfl, ?_⟩) (by assumption) ?_
        case refine_2 => (intro w9 hSw; obtain ⟨hpb9, z5⟩ := hSw; obtain ⟨z0, z1, z2, z3⟩ := PB.c hpb9; clear hpb9; (go_simp); (try omega); try with_reducible rfl)
        simp only [Act.put, List.setIfInBounds_toArray, List.set_cons_zero, List.set_cons_succ]
        refine wpAnyH_take (i := 1) (v := ?_) (oi := { dst := some 59, op := _, type := _, pos := _, after := _, guard := none }) rfl (by kernel_rfl) (by kernel_rfl) (by kernel_rfl) (fun _ _ _ h => h) (Or.inl ⟨by kernel_rfl, ?_⟩) (by assumption) ?_
        case refine_2 => (intro w9 hSw; clear hSw; (go_simp); (try omega); try with_reducible rfl)
        simp only [Act.put, List.setIfInBounds_toArray, List.set_cons_zero, List.set_cons_succ]
        refine wpAnyH_take (i := 2) (v := ?_) (oi := { dst := some 60, op := _, type := _, pos := _, after := _, guard := none }) rfl (by kernel_rfl) (by kernel_rfl) (by kernel_rfl) (fun _ _ _ h => h) (Or.inl ⟨by kernel_rfl, ?_⟩) (by assumption) ?_
        case refine_2 => (intro w9 hSw; clear hSw; (go_simp); (try omega); try with_reducible rfl)
        simp only [Act.put, List.setIfInBounds_toArray, List.set_cons_zero, List.set_cons_succ]
        refine wpAnyH_take (i := 3) (v := ?_) (oi := { dst := some 61, op := _, type := _, pos := _, after := _, guard := none }) rfl (by kernel_rfl) (by kernel_rfl) (by kernel_rfl) (fun _ _ _ h => h) (Or.inl ⟨by kernel_rfl, ?_⟩) (by assumption) ?_
        case refine_2 => (intro w9 hSw; clear hSw; (go_simp); (try omega); try with_reducible rfl)
        simp only [Act.put, List.setIfInBounds_toArray, List.set_cons_zero, List.set_cons_succ]
        refine wpAnyH_take (i := 4) (v := ?_) (oi := { dst := some 62, op := _, type := _, pos := _, after := _, guard := none }) rfl (by kernel_rfl) (by kernel_rfl) (by kernel_rfl) (fun _ _ _ h => h) (Or.inl ⟨by kernel_rfl, ?_⟩) (by assumption) ?_
        case refine_2 => (intro w9 hSw; obtain ⟨hpb9, z5⟩ := hSw; obtain ⟨z0, z1, z2, z3⟩ := PB.c hpb9; clear hpb9; (go_simp); (try omega); try with_reducible rfl)
        simp only [Act.put, List.setIfInBounds_toArray, List.set_cons_zero, List.set_cons_succ]
        refine wpAnyH_take (i := 5) (v := ?_) (oi := { dst := some 63, op := _, type := _, pos := _, after := _, guard := none }) rfl (by kernel_rfl) (by kernel_rfl) (by kernel_rfl) (fun _ _ _ h => h) (Or.inl ⟨by kernel_rfl, ?_⟩) (by assumption) ?_
        case refine_2 => (intro w9 hSw; clear hSw; (go_simp); (try omega); try with_reducible rfl)
        simp only [Act.put, List.setIfInBounds_toArray, List.set_cons_zero, List.set_cons_succ]
        refine wpAnyH_take (i := 6) (v := .pointer (some ⟨g, j * 4, none⟩)) (oi := { dst := some 64, op := _, type := _, pos := _, after := _, guard := none }) rfl (by kernel_rfl) (by kernel_rfl) (by kernel_rfl) (fun _ _ _ h => h) (Or.inl ⟨by kernel_rfl, ?_⟩) (by assumption) ?_
        case refine_1 => (intro w9 hSw; clear hSw; (go_simp); (try omega); try with_reducible rfl)
        simp only [Act.put, List.setIfInBounds_toArray, List.set_cons_zero, List.set_cons_succ]
        refine wpAnyH_ready (rs := [7]) (by kernel_rfl) (by simp) (AllReadyH.cons (o := { dst := some 65, op := _, type := _, pos := _, after := _, guard := none }) rfl (fun K hK => ?_) AllReadyH.nil)
        go_simp
        refine (stand_any m _ _ g (j * 4) cur2 23 x.off x.dst x.ab HP2d.out.st HG2d.out hgbb hgpb (by decide) hgl HC1 HC2 HC3 KT9).mono ?_
        rintro e y3 ⟨⟨r3, rfl⟩, hst, hblk, hk2⟩
        have HP3 : Hid (PT m W q tb y3 (trF m σj x).1 TT (.slice (some ⟨g, 0, none⟩) n cap) (D ++ (trF m σj x).2 :: R)) := ⟨hst, hk2.blk HP2d.out.tbk hb1 (Ne.symm hgtb) (by decide), hk2.blk HP2d.out.box hq1 (Ne.symm hgq) (by decide), by
          have hh := own_set3 (x := ⟨(m.num σj x.at_).2, x.off, x.dst, x.ab⟩) hn2 hgl hcap hmax hcz2 htk2 (by rw [hjn]; exact hblk)
          have hn' : (D ++ (trF m σj x).2 :: R).length = n := by rw [← hn]; simp
          rw [hn']; exact hh, HP2d.out.kt.trans (KT3.of_row hk2 HG2d.out)⟩
        refine hK.out _ _ (HP3.out.s5 hT5) (fun hHeld => ?_)
        clear hK K hHeld hst hblk hk2 HP2d HG2d
        refine wpAnyH_done (by kernel_rfl) ?_ _
        go_wp2_with fail
        exact ⟨⟨j + 1, _, D ++ [(trF m σj x).2], R, .slice (some ⟨g, 0, none⟩) n cap, rfl, by omega, by simp [hjn], by simp at hnn ⊢; omega, by have h := HP3.out; rw [show D ++ (trF m σj x).2 :: R = (D ++ [(trF m σj x).2]) ++ R by simp] at h; exact h, HLn, HDn⟩, by simp [intOf]; omega⟩
    · have hjm : ¬ ((j : Int) < min cnt 4096) := by omega
      have e0 : j = NK := by omega
      subst e0
      have hEq : (σj, R) = (σ4, E.drop j) := by have h := HLj.out; rw [Nat.sub_self] at h; exact h
      obtain ⟨hs4, hR4⟩ := Prod.mk.injEq _ _ _ _ ▸ hEq
      subst hs4
      have hDE : D ++ R = E := by rw [HDj.out, hR4, List.take_append_drop]
      rw [hDE] at HP
      have Q0 : Hid (PS m wr q tb 46 wr σj (TT.setIfInBounds 5 vj)) := ⟨HP.out.st, HP.out.tbk, HP.out.box, KT2.refl _ _ _⟩
      have HOE : Hid (wr.ownsRow m.lw 23 4 vj E.length (trCs E)) := HP.out.own
      have HKE : Hid (KT3 bb tb W wr) := HP.out.kt
      have HTY := m.ty _ _ HP.out.st
      have htt2 : ∀ cs fz, wr.heap[tb]? ≠ some (.cells cs 23 fz) := fun _ _ e => by rw [HP.out.tbk] at e; cases e
      clear HP HLj HDj hEq hR4 hDE
      go_wp2_with fail
      refine wp_region_held_drew (S := PB q m.agg) (by kernel_rfl) (Q0.out.mv (below_drew1 _)).box (fun hHeld => ?_)
      have Q0d : Hid (PS m wr q tb 46 wr.drew _ _) := Q0.out.mv (below_drew1 wr)
      refine wpAnyH_take (i := 0) (v := ?_) (oi := { dst := some 70, op := _, type := _, pos := _, after := _, guard := none }) rfl (by kernel_rfl) (by kernel_rfl) (by kernel_rfl) (fun _ _ _ h => h) (Or.inl ⟨by kernel_rfl, ?_⟩) (by assumption) ?_
      case refine_2 => (intro w9 hSw; clear hSw; go_simp; try with_reducible rfl)
      simp only [Act.put, List.setIfInBounds_toArray, List.set_cons_zero, List.set_cons_succ]
      refine wpAnyH_take (i := 1) (v := ?_) (oi := { dst := some 71, op := _, type := _, pos := _, after := _, guard := none }) rfl (by kernel_rfl) (by kernel_rfl) (by kernel_rfl) (fun _ _ _ h => h) (Or.inl ⟨by kernel_rfl, ?_⟩) (by assumption) ?_
      case refine_2 => (intro w9 hSw; obtain ⟨z0, z1, z2, z3⟩ := PB.c hSw; go_simp; try with_reducible rfl)
      simp only [Act.put, List.setIfInBounds_toArray, List.set_cons_zero, List.set_cons_succ]
      refine wpAnyH_take (i := 2) (v := ?_) (oi := { dst := some 72, op := _, type := _, pos := _, after := _, guard := none }) rfl (by kernel_rfl) (by kernel_rfl) (by kernel_rfl) (fun _ _ _ h => h) (Or.inl ⟨by kernel_rfl, ?_⟩) (by assumption) ?_
      case refine_2 => (intro w9 hSw; clear hSw; go_simp; try with_reducible rfl)
      simp only [Act.put, List.setIfInBounds_toArray, List.set_cons_zero, List.set_cons_succ]
      refine wpAnyH_take (i := 3) (v := ?_) (oi := { dst := some 73, op := _, type := _, pos := _, after := _, guard := none }) rfl (by kernel_rfl) (by kernel_rfl) (by kernel_rfl) (fun _ _ _ h => h) (Or.inl ⟨by kernel_rfl, ?_⟩) (by assumption) ?_
      case refine_2 => (intro w9 hSw; clear hSw; go_simp; try with_reducible rfl)
      simp only [Act.put, List.setIfInBounds_toArray, List.set_cons_zero, List.set_cons_succ]
      refine wpAnyH_take (i := 4) (v := ?_) (oi := { dst := some 74, op := _, type := _, pos := _, after := _, guard := none }) rfl (by kernel_rfl) (by kernel_rfl) (by kernel_rfl) (fun _ _ _ h => h) (Or.inl ⟨by kernel_rfl, ?_⟩) (by assumption) ?_
      case refine_2 => (intro w9 hSw; clear hSw; go_simp; try with_reducible rfl)
      simp only [Act.put, List.setIfInBounds_toArray, List.set_cons_zero, List.set_cons_succ]
      refine wpAnyH_ready (rs := [5]) (by kernel_rfl) (by simp) (AllReadyH.cons (o := { dst := some 75, op := _, type := _, pos := _, after := _, guard := none }) rfl (fun K hK => ?_) AllReadyH.nil)
      go_simp
      refine (m.hF _ _ tb 6 _ 46 has Q0d.out.st K5a Q0d.out.blk hb1 hb2 (by decide) hlw (by simp [hT6])).mono ?_
      rintro e v5 ⟨⟨r5, rfl⟩, hst, hblk, hk2⟩
      have P5 : Hid (PS m wr q tb 46 v5 _ _) := ⟨hst, hblk, hk2.blk Q0d.out.box hq1 hq2 (by decide), Q0d.out.kt.trans hk2⟩
      refine hK.out _ _ P5.out.box (fun hHeld => ?_)
      clear hK K hHeld hst hblk hk2 Q0 Q0d
      refine wpAnyH_done (by kernel_rfl) ?_ _
      have c6 := cell_of P5.out.blk (i := 6) (v := .bool true) (by rw [hF]; simp [hT6l])
      obtain ⟨TU, hTU⟩ : ∃ TU, ((TT.setIfInBounds 5 vj).setIfInBounds 6 (.bool (m.flag σj has).2)) = TU := ⟨_, rfl⟩
      rw [hTU] at P5
      have f7TU : TU[7]? = some (.int .i64 fr) := by rw [← hTU]; simp [f7TT]
      have f8TU : TU[8]? = some (.int .i64 foff) := by rw [← hTU]; simp [f8TT]
      have fA0TU : TU[9]? = some (.int .i64 hA.mo) := by rw [← hTU]; simp [fA0TT]
      have fA1TU : TU[10]? = some (.int .i64 hA.k) := by rw [← hTU]; simp [fA1TT]
      have fA2TU : TU[11]? = some (.int .i64 hA.d) := by rw [← hTU]; simp [fA2TT]
      have fA3TU : TU[12]? = some (.int .i64 hA.n) := by rw [← hTU]; simp [fA3TT]
      have fA4TU : TU[13]? = some (.int .i64 hA.s) := by rw [← hTU]; simp [fA4TT]
      have fA5TU : TU[14]? = some (.int .u8 (hA.z.toNat : Int)) := by rw [← hTU]; simp [fA5TT]
      have fA6TU : TU[15]? = some (.int .i64 hA.v) := by rw [← hTU]; simp [fA6TT]
      have fA7TU : TU[16]? = some (.string hA.t) := by rw [← hTU]; simp [fA7TT]
      have fB0TU : TU[17]? = some (.int .i64 hB.mo) := by rw [← hTU]; simp [fB0TT]
      have fB1TU : TU[18]? = some (.int .i64 hB.k) := by rw [← hTU]; simp [fB1TT]
      have fB2TU : TU[19]? = some (.int .i64 hB.d) := by rw [← hTU]; simp [fB2TT]
      have fB3TU : TU[20]? = some (.int .i64 hB.n) := by rw [← hTU]; simp [fB3TT]
      have fB4TU : TU[21]? = some (.int .i64 hB.s) := by rw [← hTU]; simp [fB4TT]
      have fB5TU : TU[22]? = some (.int .u8 (hB.z.toNat : Int)) := by rw [← hTU]; simp [fB5TT]
      have fB6TU : TU[23]? = some (.int .i64 hB.v) := by rw [← hTU]; simp [fB6TT]
      have fB7TU : TU[24]? = some (.string hB.t) := by rw [← hTU]; simp [fB7TT]
      have GTU : Hid (((TT.setIfInBounds 5 vj).setIfInBounds 6 (.bool (m.flag σj has).2)) = TU) := hTU
      clear hTU
      go_wp2_with fail
      refine wp_region_held_drew (S := PB q m.agg) (by kernel_rfl) (P5.out.mv (below_drew1 _)).box (fun hHeld => ?_)
      have P5d : Hid (PS m wr q tb 46 v5.drew _ _) := P5.out.mv (below_drew1 v5)
      refine wpAnyH_take (i := 0) (v := ?_) (oi := { dst := some 81, op := _, type := _, pos := _, after := _, guard := none }) rfl (by kernel_rfl) (by kernel_rfl) (by kernel_rfl) (fun _ _ _ h => h) (Or.inl ⟨by kernel_rfl, ?_⟩) (by assumption) ?_
      case refine_2 => (intro w9 hSw; clear hSw; go_simp; try with_reducible rfl)
      simp only [Act.put, List.setIfInBounds_toArray, List.set_cons_zero, List.set_cons_succ]
      refine wpAnyH_take (i := 1) (v := ?_) (oi := { dst := some 82, op := _, type := _, pos := _, after := _, guard := none }) rfl (by kernel_rfl) (by kernel_rfl) (by kernel_rfl) (fun _ _ _ h => h) (Or.inl ⟨by kernel_rfl, ?_⟩) (by assumption) ?_
      case refine_2 => (intro w9 hSw; obtain ⟨z0, z1, z2, z3⟩ := PB.c hSw; go_simp; try with_reducible rfl)
      simp only [Act.put, List.setIfInBounds_toArray, List.set_cons_zero, List.set_cons_succ]
      refine wpAnyH_take (i := 2) (v := ?_) (oi := { dst := some 83, op := _, type := _, pos := _, after := _, guard := none }) rfl (by kernel_rfl) (by kernel_rfl) (by kernel_rfl) (fun _ _ _ h => h) (Or.inl ⟨by kernel_rfl, ?_⟩) (by assumption) ?_
      case refine_2 => (intro w9 hSw; clear hSw; go_simp; try with_reducible rfl)
      simp only [Act.put, List.setIfInBounds_toArray, List.set_cons_zero, List.set_cons_succ]
      refine wpAnyH_take (i := 3) (v := ?_) (oi := { dst := some 84, op := _, type := _, pos := _, after := _, guard := none }) rfl (by kernel_rfl) (by kernel_rfl) (by kernel_rfl) (fun _ _ _ h => h) (Or.inl ⟨by kernel_rfl, ?_⟩) (by assumption) ?_
      case refine_2 => (intro w9 hSw; clear hSw; go_simp; try with_reducible rfl)
      simp only [Act.put, List.setIfInBounds_toArray, List.set_cons_zero, List.set_cons_succ]
      refine wpAnyH_take (i := 4) (v := ?_) (oi := { dst := some 85, op := _, type := _, pos := _, after := _, guard := none }) rfl (by kernel_rfl) (by kernel_rfl) (by kernel_rfl) (fun _ _ _ h => h) (Or.inl ⟨by kernel_rfl, ?_⟩) (by assumption) ?_
      case refine_2 => (intro w9 hSw; clear hSw; go_simp; try with_reducible rfl)
      simp only [Act.put, List.setIfInBounds_toArray, List.set_cons_zero, List.set_cons_succ]
      refine wpAnyH_ready (rs := [5]) (by kernel_rfl) (by simp) (AllReadyH.cons (o := { dst := some 86, op := _, type := _, pos := _, after := _, guard := none }) rfl (fun K hK => ?_) AllReadyH.nil)
      go_simp
      refine (m.hN _ _ tb 7 TU 46 fr P5d.out.st K6 P5d.out.blk hb1 hb2 (by decide) hlw f7TU).mono ?_
      rintro e v6 ⟨⟨r6, rfl⟩, hst, hblk, hk2⟩
      have P6 : Hid (PS m wr q tb 46 v6 _ _) := ⟨hst, hblk, hk2.blk P5d.out.box hq1 hq2 (by decide), P5d.out.kt.trans hk2⟩
      refine hK.out _ _ P6.out.box (fun hHeld => ?_)
      clear hK K hHeld hst hblk hk2 P5 P5d
      refine wpAnyH_done (by kernel_rfl) ?_ _
      obtain ⟨TV, hTV⟩ : ∃ TV, (TU.setIfInBounds 7 (.int .i64 (m.num (m.flag σj has).1 fr).2)) = TV := ⟨_, rfl⟩
      rw [hTV] at P6
      have f8TV : TV[8]? = some (.int .i64 foff) := by rw [← hTV]; simp [f8TU]
      have fA0TV : TV[9]? = some (.int .i64 hA.mo) := by rw [← hTV]; simp [fA0TU]
      have fA1TV : TV[10]? = some (.int .i64 hA.k) := by rw [← hTV]; simp [fA1TU]
      have fA2TV : TV[11]? = some (.int .i64 hA.d) := by rw [← hTV]; simp [fA2TU]
      have fA3TV : TV[12]? = some (.int .i64 hA.n) := by rw [← hTV]; simp [fA3TU]
      have fA4TV : TV[13]? = some (.int .i64 hA.s) := by rw [← hTV]; simp [fA4TU]
      have fA5TV : TV[14]? = some (.int .u8 (hA.z.toNat : Int)) := by rw [← hTV]; simp [fA5TU]
      have fA6TV : TV[15]? = some (.int .i64 hA.v) := by rw [← hTV]; simp [fA6TU]
      have fA7TV : TV[16]? = some (.string hA.t) := by rw [← hTV]; simp [fA7TU]
      have fB0TV : TV[17]? = some (.int .i64 hB.mo) := by rw [← hTV]; simp [fB0TU]
      have fB1TV : TV[18]? = some (.int .i64 hB.k) := by rw [← hTV]; simp [fB1TU]
      have fB2TV : TV[19]? = some (.int .i64 hB.d) := by rw [← hTV]; simp [fB2TU]
      have fB3TV : TV[20]? = some (.int .i64 hB.n) := by rw [← hTV]; simp [fB3TU]
      have fB4TV : TV[21]? = some (.int .i64 hB.s) := by rw [← hTV]; simp [fB4TU]
      have fB5TV : TV[22]? = some (.int .u8 (hB.z.toNat : Int)) := by rw [← hTV]; simp [fB5TU]
      have fB6TV : TV[23]? = some (.int .i64 hB.v) := by rw [← hTV]; simp [fB6TU]
      have fB7TV : TV[24]? = some (.string hB.t) := by rw [← hTV]; simp [fB7TU]
      have GTV : Hid ((TU.setIfInBounds 7 (.int .i64 (m.num (m.flag σj has).1 fr).2)) = TV) := hTV
      clear hTV
      go_wp2_with fail
      refine wp_region_held_drew (S := PB q m.agg) (by kernel_rfl) (P6.out.mv (below_drew1 _)).box (fun hHeld => ?_)
      have P6d : Hid (PS m wr q tb 46 v6.drew _ _) := P6.out.mv (below_drew1 v6)
      refine wpAnyH_take (i := 0) (v := ?_) (oi := { dst := some 87, op := _, type := _, pos := _, after := _, guard := none }) rfl (by kernel_rfl) (by kernel_rfl) (by kernel_rfl) (fun _ _ _ h => h) (Or.inl ⟨by kernel_rfl, ?_⟩) (by assumption) ?_
      case refine_2 => (intro w9 hSw; clear hSw; go_simp; try with_reducible rfl)
      simp only [Act.put, List.setIfInBounds_toArray, List.set_cons_zero, List.set_cons_succ]
      refine wpAnyH_take (i := 1) (v := ?_) (oi := { dst := some 88, op := _, type := _, pos := _, after := _, guard := none }) rfl (by kernel_rfl) (by kernel_rfl) (by kernel_rfl) (fun _ _ _ h => h) (Or.inl ⟨by kernel_rfl, ?_⟩) (by assumption) ?_
      case refine_2 => (intro w9 hSw; obtain ⟨z0, z1, z2, z3⟩ := PB.c hSw; go_simp; try with_reducible rfl)
      simp only [Act.put, List.setIfInBounds_toArray, List.set_cons_zero, List.set_cons_succ]
      refine wpAnyH_take (i := 2) (v := ?_) (oi := { dst := some 89, op := _, type := _, pos := _, after := _, guard := none }) rfl (by kernel_rfl) (by kernel_rfl) (by kernel_rfl) (fun _ _ _ h => h) (Or.inl ⟨by kernel_rfl, ?_⟩) (by assumption) ?_
      case refine_2 => (intro w9 hSw; clear hSw; go_simp; try with_reducible rfl)
      simp only [Act.put, List.setIfInBounds_toArray, List.set_cons_zero, List.set_cons_succ]
      refine wpAnyH_take (i := 3) (v := ?_) (oi := { dst := some 90, op := _, type := _, pos := _, after := _, guard := none }) rfl (by kernel_rfl) (by kernel_rfl) (by kernel_rfl) (fun _ _ _ h => h) (Or.inl ⟨by kernel_rfl, ?_⟩) (by assumption) ?_
      case refine_2 => (intro w9 hSw; clear hSw; go_simp; try with_reducible rfl)
      simp only [Act.put, List.setIfInBounds_toArray, List.set_cons_zero, List.set_cons_succ]
      refine wpAnyH_take (i := 4) (v := ?_) (oi := { dst := some 91, op := _, type := _, pos := _, after := _, guard := none }) rfl (by kernel_rfl) (by kernel_rfl) (by kernel_rfl) (fun _ _ _ h => h) (Or.inl ⟨by kernel_rfl, ?_⟩) (by assumption) ?_
      case refine_2 => (intro w9 hSw; clear hSw; go_simp; try with_reducible rfl)
      simp only [Act.put, List.setIfInBounds_toArray, List.set_cons_zero, List.set_cons_succ]
      refine wpAnyH_ready (rs := [5]) (by kernel_rfl) (by simp) (AllReadyH.cons (o := { dst := some 92, op := _, type := _, pos := _, after := _, guard := none }) rfl (fun K hK => ?_) AllReadyH.nil)
      go_simp
      refine (m.hN _ _ tb 8 TV 46 foff P6d.out.st K7 P6d.out.blk hb1 hb2 (by decide) hlw f8TV).mono ?_
      rintro e v7 ⟨⟨r7, rfl⟩, hst, hblk, hk2⟩
      have P7 : Hid (PS m wr q tb 46 v7 _ _) := ⟨hst, hblk, hk2.blk P6d.out.box hq1 hq2 (by decide), P6d.out.kt.trans hk2⟩
      refine hK.out _ _ P7.out.box (fun hHeld => ?_)
      clear hK K hHeld hst hblk hk2 P6 P6d
      refine wpAnyH_done (by kernel_rfl) ?_ _
      obtain ⟨TW, hTW⟩ : ∃ TW, (TV.setIfInBounds 8 (.int .i64 (m.num (m.num (m.flag σj has).1 fr).1 foff).2)) = TW := ⟨_, rfl⟩
      rw [hTW] at P7
      have fA0TW : TW[9]? = some (.int .i64 hA.mo) := by rw [← hTW]; simp [fA0TV]
      have fA1TW : TW[10]? = some (.int .i64 hA.k) := by rw [← hTW]; simp [fA1TV]
      have fA2TW : TW[11]? = some (.int .i64 hA.d) := by rw [← hTW]; simp [fA2TV]
      have fA3TW : TW[12]? = some (.int .i64 hA.n) := by rw [← hTW]; simp [fA3TV]
      have fA4TW : TW[13]? = some (.int .i64 hA.s) := by rw [← hTW]; simp [fA4TV]
      have fA5TW : TW[14]? = some (.int .u8 (hA.z.toNat : Int)) := by rw [← hTW]; simp [fA5TV]
      have fA6TW : TW[15]? = some (.int .i64 hA.v) := by rw [← hTW]; simp [fA6TV]
      have fA7TW : TW[16]? = some (.string hA.t) := by rw [← hTW]; simp [fA7TV]
      have fB0TW : TW[17]? = some (.int .i64 hB.mo) := by rw [← hTW]; simp [fB0TV]
      have fB1TW : TW[18]? = some (.int .i64 hB.k) := by rw [← hTW]; simp [fB1TV]
      have fB2TW : TW[19]? = some (.int .i64 hB.d) := by rw [← hTW]; simp [fB2TV]
      have fB3TW : TW[20]? = some (.int .i64 hB.n) := by rw [← hTW]; simp [fB3TV]
      have fB4TW : TW[21]? = some (.int .i64 hB.s) := by rw [← hTW]; simp [fB4TV]
      have fB5TW : TW[22]? = some (.int .u8 (hB.z.toNat : Int)) := by rw [← hTW]; simp [fB5TV]
      have fB6TW : TW[23]? = some (.int .i64 hB.v) := by rw [← hTW]; simp [fB6TV]
      have fB7TW : TW[24]? = some (.string hB.t) := by rw [← hTW]; simp [fB7TV]
      have GTW : Hid ((TV.setIfInBounds 8 (.int .i64 (m.num (m.num (m.flag σj has).1 fr).1 foff).2)) = TW) := hTW
      clear hTW
      go_wp2_with fail
      refine wp_region_held_drew (S := PB q m.agg) (by kernel_rfl) (P7.out.mv (below_drew1 _)).box (fun hHeld => ?_)
      have P7d : Hid (PS m wr q tb 46 v7.drew _ _) := P7.out.mv (below_drew1 v7)
      refine wpAnyH_take (i := 0) (v := ?_) (oi := { dst := some 93, op := _, type := _, pos := _, after := _, guard := none }) rfl (by kernel_rfl) (by kernel_rfl) (by kernel_rfl) (fun _ _ _ h => h) (Or.inl ⟨by kernel_rfl, ?_⟩) (by assumption) ?_
      case refine_2 => (intro w9 hSw; obtain ⟨z0, z1, z2, z3⟩ := PB.c hSw; go_simp; try with_reducible rfl)
      simp only [Act.put, List.setIfInBounds_toArray, List.set_cons_zero, List.set_cons_succ]
      refine wpAnyH_take (i := 1) (v := ?_) (oi := { dst := some 94, op := _, type := _, pos := _, after := _, guard := none }) rfl (by kernel_rfl) (by kernel_rfl) (by kernel_rfl) (fun _ _ _ h => h) (Or.inl ⟨by kernel_rfl, ?_⟩) (by assumption) ?_
      case refine_2 => (intro w9 hSw; clear hSw; go_simp; try with_reducible rfl)
      simp only [Act.put, List.setIfInBounds_toArray, List.set_cons_zero, List.set_cons_succ]
      refine wpAnyH_take (i := 2) (v := ?_) (oi := { dst := some 95, op := _, type := _, pos := _, after := _, guard := none }) rfl (by kernel_rfl) (by kernel_rfl) (by kernel_rfl) (fun _ _ _ h => h) (Or.inl ⟨by kernel_rfl, ?_⟩) (by assumption) ?_
      case refine_2 => (intro w9 hSw; clear hSw; go_simp; try with_reducible rfl)
      simp only [Act.put, List.setIfInBounds_toArray, List.set_cons_zero, List.set_cons_succ]
      refine wpAnyH_take (i := 3) (v := ?_) (oi := { dst := some 96, op := _, type := _, pos := _, after := _, guard := none }) rfl (by kernel_rfl) (by kernel_rfl) (by kernel_rfl) (fun _ _ _ h => h) (Or.inl ⟨by kernel_rfl, ?_⟩) (by assumption) ?_
      case refine_2 => (intro w9 hSw; clear hSw; go_simp; try with_reducible rfl)
      simp only [Act.put, List.setIfInBounds_toArray, List.set_cons_zero, List.set_cons_succ]
      refine wpAnyH_ready (rs := [4]) (by kernel_rfl) (by simp) (AllReadyH.cons (o := { dst := some 97, op := _, type := _, pos := _, after := _, guard := none }) rfl (fun K hK => ?_) AllReadyH.nil)
      go_simp
      refine (half_any m _ (m.num (m.num (m.flag σj has).1 fr).1 foff).1 ((m.num (m.num (m.num (m.flag σj has).1 fr).1 foff).1 hA.mo).1) ((m.num (m.num (m.num (m.num (m.flag σj has).1 fr).1 foff).1 hA.mo).1 hA.k).1) ((m.num (m.num (m.num (m.num (m.num (m.flag σj has).1 fr).1 foff).1 hA.mo).1 hA.k).1 hA.d).1) ((m.num (m.num (m.num (m.num (m.num (m.num (m.flag σj has).1 fr).1 foff).1 hA.mo).1 hA.k).1 hA.d).1 hA.n).1) ((m.num (m.num (m.num (m.num (m.num (m.num (m.num (m.flag σj has).1 fr).1 foff).1 hA.mo).1 hA.k).1 hA.d).1 hA.n).1 hA.s).1) ((m.oct (m.num (m.num (m.num (m.num (m.num (m.num (m.num (m.flag σj has).1 fr).1 foff).1 hA.mo).1 hA.k).1 hA.d).1 hA.n).1 hA.s).1 hA.z).1) ((m.num (m.oct (m.num (m.num (m.num (m.num (m.num (m.num (m.num (m.flag σj has).1 fr).1 foff).1 hA.mo).1 hA.k).1 hA.d).1 hA.n).1 hA.s).1 hA.z).1 hA.v).1) ((m.text (m.num (m.oct (m.num (m.num (m.num (m.num (m.num (m.num (m.num (m.flag σj has).1 fr).1 foff).1 hA.mo).1 hA.k).1 hA.d).1 hA.n).1 hA.s).1 hA.z).1 hA.v).1 hA.t).1) tb 9 TW 46 hA.mo hA.k hA.d hA.n hA.s hA.v hA.z hA.t P7d.out.st P7d.out.blk hb1 hb2 (by decide) hlw hlo fA0TW fA1TW fA2TW fA3TW fA4TW fA5TW fA6TW fA7TW rfl rfl rfl rfl rfl rfl rfl rfl KA).mono ?_
      rintro e v8 ⟨⟨r8, rfl⟩, hst, hblk, hk2⟩
      have P8 : Hid (PS m wr q tb 46 v8 _ _) := ⟨hst, hblk, hk2.blk P7d.out.box hq1 hq2 (by decide), P7d.out.kt.trans hk2⟩
      refine hK.out _ _ P8.out.box (fun hHeld => ?_)
      clear hK K hHeld hst hblk hk2 P7 P7d
      refine wpAnyH_done (by kernel_rfl) ?_ _
      have P8 : Hid (PS m wr q tb 46 v8 _ (setH TW 9 (.int .i64 (m.num (m.num (m.num (m.flag σj has).1 fr).1 foff).1 hA.mo).2) (.int .i64 (m.num (m.num (m.num (m.num (m.flag σj has).1 fr).1 foff).1 hA.mo).1 hA.k).2) (.int .i64 (m.num (m.num (m.num (m.num (m.num (m.flag σj has).1 fr).1 foff).1 hA.mo).1 hA.k).1 hA.d).2) (.int .i64 (m.num (m.num (m.num (m.num (m.num (m.num (m.flag σj has).1 fr).1 foff).1 hA.mo).1 hA.k).1 hA.d).1 hA.n).2) (.int .i64 (m.num (m.num (m.num (m.num (m.num (m.num (m.num (m.flag σj has).1 fr).1 foff).1 hA.mo).1 hA.k).1 hA.d).1 hA.n).1 hA.s).2) (.int .u8 ((m.oct (m.num (m.num (m.num (m.num (m.num (m.num (m.num (m.flag σj has).1 fr).1 foff).1 hA.mo).1 hA.k).1 hA.d).1 hA.n).1 hA.s).1 hA.z).2.toNat : Int)) (.int .i64 (m.num (m.oct (m.num (m.num (m.num (m.num (m.num (m.num (m.num (m.flag σj has).1 fr).1 foff).1 hA.mo).1 hA.k).1 hA.d).1 hA.n).1 hA.s).1 hA.z).1 hA.v).2) (.string (m.text (m.num (m.oct (m.num (m.num (m.num (m.num (m.num (m.num (m.num (m.flag σj has).1 fr).1 foff).1 hA.mo).1 hA.k).1 hA.d).1 hA.n).1 hA.s).1 hA.z).1 hA.v).1 hA.t).2))) := P8
      obtain ⟨TX, hTX⟩ : ∃ TX, (setH TW 9 (.int .i64 (m.num (m.num (m.num (m.flag σj has).1 fr).1 foff).1 hA.mo).2) (.int .i64 (m.num (m.num (m.num (m.num (m.flag σj has).1 fr).1 foff).1 hA.mo).1 hA.k).2) (.int .i64 (m.num (m.num (m.num (m.num (m.num (m.flag σj has).1 fr).1 foff).1 hA.mo).1 hA.k).1 hA.d).2) (.int .i64 (m.num (m.num (m.num (m.num (m.num (m.num (m.flag σj has).1 fr).1 foff).1 hA.mo).1 hA.k).1 hA.d).1 hA.n).2) (.int .i64 (m.num (m.num (m.num (m.num (m.num (m.num (m.num (m.flag σj has).1 fr).1 foff).1 hA.mo).1 hA.k).1 hA.d).1 hA.n).1 hA.s).2) (.int .u8 ((m.oct (m.num (m.num (m.num (m.num (m.num (m.num (m.num (m.flag σj has).1 fr).1 foff).1 hA.mo).1 hA.k).1 hA.d).1 hA.n).1 hA.s).1 hA.z).2.toNat : Int)) (.int .i64 (m.num (m.oct (m.num (m.num (m.num (m.num (m.num (m.num (m.num (m.flag σj has).1 fr).1 foff).1 hA.mo).1 hA.k).1 hA.d).1 hA.n).1 hA.s).1 hA.z).1 hA.v).2) (.string (m.text (m.num (m.oct (m.num (m.num (m.num (m.num (m.num (m.num (m.num (m.flag σj has).1 fr).1 foff).1 hA.mo).1 hA.k).1 hA.d).1 hA.n).1 hA.s).1 hA.z).1 hA.v).1 hA.t).2)) = TX := ⟨_, rfl⟩
      rw [hTX] at P8
      have GTX : Hid ((setH TW 9 (.int .i64 (m.num (m.num (m.num (m.flag σj has).1 fr).1 foff).1 hA.mo).2) (.int .i64 (m.num (m.num (m.num (m.num (m.flag σj has).1 fr).1 foff).1 hA.mo).1 hA.k).2) (.int .i64 (m.num (m.num (m.num (m.num (m.num (m.flag σj has).1 fr).1 foff).1 hA.mo).1 hA.k).1 hA.d).2) (.int .i64 (m.num (m.num (m.num (m.num (m.num (m.num (m.flag σj has).1 fr).1 foff).1 hA.mo).1 hA.k).1 hA.d).1 hA.n).2) (.int .i64 (m.num (m.num (m.num (m.num (m.num (m.num (m.num (m.flag σj has).1 fr).1 foff).1 hA.mo).1 hA.k).1 hA.d).1 hA.n).1 hA.s).2) (.int .u8 ((m.oct (m.num (m.num (m.num (m.num (m.num (m.num (m.num (m.flag σj has).1 fr).1 foff).1 hA.mo).1 hA.k).1 hA.d).1 hA.n).1 hA.s).1 hA.z).2.toNat : Int)) (.int .i64 (m.num (m.oct (m.num (m.num (m.num (m.num (m.num (m.num (m.num (m.flag σj has).1 fr).1 foff).1 hA.mo).1 hA.k).1 hA.d).1 hA.n).1 hA.s).1 hA.z).1 hA.v).2) (.string (m.text (m.num (m.oct (m.num (m.num (m.num (m.num (m.num (m.num (m.num (m.flag σj has).1 fr).1 foff).1 hA.mo).1 hA.k).1 hA.d).1 hA.n).1 hA.s).1 hA.z).1 hA.v).1 hA.t).2)) = TX) := hTX
      clear hTX
      have fB0TX : TX[17]? = some (.int .i64 hB.mo) := by rw [← GTX.out]; unfold setH; simp [fB0TW]
      have fB1TX : TX[18]? = some (.int .i64 hB.k) := by rw [← GTX.out]; unfold setH; simp [fB1TW]
      have fB2TX : TX[19]? = some (.int .i64 hB.d) := by rw [← GTX.out]; unfold setH; simp [fB2TW]
      have fB3TX : TX[20]? = some (.int .i64 hB.n) := by rw [← GTX.out]; unfold setH; simp [fB3TW]
      have fB4TX : TX[21]? = some (.int .i64 hB.s) := by rw [← GTX.out]; unfold setH; simp [fB4TW]
      have fB5TX : TX[22]? = some (.int .u8 (hB.z.toNat : Int)) := by rw [← GTX.out]; unfold setH; simp [fB5TW]
      have fB6TX : TX[23]? = some (.int .i64 hB.v) := by rw [← GTX.out]; unfold setH; simp [fB6TW]
      have fB7TX : TX[24]? = some (.string hB.t) := by rw [← GTX.out]; unfold setH; simp [fB7TW]
      go_wp2_with fail
      refine wp_region_held_drew (S := PB q m.agg) (by kernel_rfl) (P8.out.mv (below_drew1 _)).box (fun hHeld => ?_)
      have P8d : Hid (PS m wr q tb 46 v8.drew _ _) := P8.out.mv (below_drew1 v8)
      refine wpAnyH_take (i := 0) (v := ?_) (oi := { dst := some 98, op := _, type := _, pos := _, after := _, guard := none }) rfl (by kernel_rfl) (by kernel_rfl) (by kernel_rfl) (fun _ _ _ h => h) (Or.inl ⟨by kernel_rfl, ?_⟩) (by assumption) ?_
      case refine_2 => (intro w9 hSw; obtain ⟨z0, z1, z2, z3⟩ := PB.c hSw; go_simp; try with_reducible rfl)
      simp only [Act.put, List.setIfInBounds_toArray, List.set_cons_zero, List.set_cons_succ]
      refine wpAnyH_take (i := 1) (v := ?_) (oi := { dst := some 99, op := _, type := _, pos := _, after := _, guard := none }) rfl (by kernel_rfl) (by kernel_rfl) (by kernel_rfl) (fun _ _ _ h => h) (Or.inl ⟨by kernel_rfl, ?_⟩) (by assumption) ?_
      case refine_2 => (intro w9 hSw; clear hSw; go_simp; try with_reducible rfl)
      simp only [Act.put, List.setIfInBounds_toArray, List.set_cons_zero, List.set_cons_succ]
      refine wpAnyH_take (i := 2) (v := ?_) (oi := { dst := some 100, op := _, type := _, pos := _, after := _, guard := none }) rfl (by kernel_rfl) (by kernel_rfl) (by kernel_rfl) (fun _ _ _ h => h) (Or.inl ⟨by kernel_rfl, ?_⟩) (by assumption) ?_
      case refine_2 => (intro w9 hSw; clear hSw; go_simp; try with_reducible rfl)
      simp only [Act.put, List.setIfInBounds_toArray, List.set_cons_zero, List.set_cons_succ]
      refine wpAnyH_take (i := 3) (v := ?_) (oi := { dst := some 101, op := _, type := _, pos := _, after := _, guard := none }) rfl (by kernel_rfl) (by kernel_rfl) (by kernel_rfl) (fun _ _ _ h => h) (Or.inl ⟨by kernel_rfl, ?_⟩) (by assumption) ?_
      case refine_2 => (intro w9 hSw; clear hSw; go_simp; try with_reducible rfl)
      simp only [Act.put, List.setIfInBounds_toArray, List.set_cons_zero, List.set_cons_succ]
      refine wpAnyH_ready (rs := [4]) (by kernel_rfl) (by simp) (AllReadyH.cons (o := { dst := some 102, op := _, type := _, pos := _, after := _, guard := none }) rfl (fun K hK => ?_) AllReadyH.nil)
      go_simp
      refine (half_any m _ (hfS m (m.num (m.num (m.flag σj has).1 fr).1 foff).1 hA) ((m.num (hfS m (m.num (m.num (m.flag σj has).1 fr).1 foff).1 hA) hB.mo).1) ((m.num (m.num (hfS m (m.num (m.num (m.flag σj has).1 fr).1 foff).1 hA) hB.mo).1 hB.k).1) ((m.num (m.num (m.num (hfS m (m.num (m.num (m.flag σj has).1 fr).1 foff).1 hA) hB.mo).1 hB.k).1 hB.d).1) ((m.num (m.num (m.num (m.num (hfS m (m.num (m.num (m.flag σj has).1 fr).1 foff).1 hA) hB.mo).1 hB.k).1 hB.d).1 hB.n).1) ((m.num (m.num (m.num (m.num (m.num (hfS m (m.num (m.num (m.flag σj has).1 fr).1 foff).1 hA) hB.mo).1 hB.k).1 hB.d).1 hB.n).1 hB.s).1) ((m.oct (m.num (m.num (m.num (m.num (m.num (hfS m (m.num (m.num (m.flag σj has).1 fr).1 foff).1 hA) hB.mo).1 hB.k).1 hB.d).1 hB.n).1 hB.s).1 hB.z).1) ((m.num (m.oct (m.num (m.num (m.num (m.num (m.num (hfS m (m.num (m.num (m.flag σj has).1 fr).1 foff).1 hA) hB.mo).1 hB.k).1 hB.d).1 hB.n).1 hB.s).1 hB.z).1 hB.v).1) ((m.text (m.num (m.oct (m.num (m.num (m.num (m.num (m.num (hfS m (m.num (m.num (m.flag σj has).1 fr).1 foff).1 hA) hB.mo).1 hB.k).1 hB.d).1 hB.n).1 hB.s).1 hB.z).1 hB.v).1 hB.t).1) tb 17 TX 46 hB.mo hB.k hB.d hB.n hB.s hB.v hB.z hB.t P8d.out.st P8d.out.blk hb1 hb2 (by decide) hlw hlo fB0TX fB1TX fB2TX fB3TX fB4TX fB5TX fB6TX fB7TX rfl rfl rfl rfl rfl rfl rfl rfl KB).mono ?_
      rintro e v9 ⟨⟨r9, rfl⟩, hst, hblk, hk2⟩
      have P9 : Hid (PS m wr q tb 46 v9 _ _) := ⟨hst, hblk, hk2.blk P8d.out.box hq1 hq2 (by decide), P8d.out.kt.trans hk2⟩
      refine hK.out _ _ P9.out.box (fun hHeld => ?_)
      clear hK K hHeld hst hblk hk2 P8 P8d
      refine wpAnyH_done (by kernel_rfl) ?_ _
      go_wp2_with fail
      exact bodyPost_end (v := .tuple #[]) (by simp [results, Tryd.results12, go_sem]) rfl ⟨⟨_, rfl⟩, P9.out.st, vj, by have h := P9.out.blk; rw [← GTX.out, ← GTW.out, ← GTV.out, ← GTU.out, hF, ← HTT.out] at h; exact h, own_kt HOE.out P9.out.kt HTY htt2, HKE.out.trans (KT3.of_kt2 P9.out.kt)⟩

end Go.Proofs.YtcgcljfdfimfgaaDoor
