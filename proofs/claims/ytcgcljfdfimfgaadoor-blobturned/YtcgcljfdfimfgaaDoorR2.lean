import Derived.Test.YtcgcljfdfimfgaaDoorR1
import Derived.Deep.Cut
import Derived.Test.YtcgcljfdfimfgaaDoorRows
import Derived.WalkKit
import Derived.WalkSpells
import Derived.WalkLawsBesides
import Derived.Laws.IdiomStrings
import Derived.Lib.ItoaNum
import Derived.Lib.ItoaLen
import Derived.Lib.OthersKept
import Derived.Deep.LoopGhost
import Derived.Deep.RegionWith
import Derived.Below
import Derived.ChangeSlices
import Derived.Carry
import Derived.BigQuiet
import Derived.Deep.QuietTactic
import Derived.Laws.BytesArg
import Derived.Lib.MapLaws
import Derived.Laws.RangeAny
/- Contract: blob.pass of a table with no Trans and no foot, by either machine. -/
namespace Go.Proofs.YtcgcljfdfimfgaaDoor
open Go.RowKit Sr
set_option linter.unusedVariables false

theorem cell_of {W : World} {b : Nat} {cs : Array Value} {t : TypeId} {fz : Nat × Nat} (h : W.heap[b]? = some (.cells cs t fz)) {i : Nat} {v : Value} (hi : cs[i]? = some v) : W.cell? ⟨b, i, none⟩ = some v := by simp [World.cell?, h, hi]
theorem KT2.side {bb b cb : Nat} {A B C : World} (h : KT2 bb b A B) (k : KT2 bb cb B C) (hc : A.heap.size ≤ cb) : KT2 bb b A C :=
  ⟨Nat.le_trans h.1 k.1, fun i o hi h1 h2 h5 => k.2 i o (h.2 i o hi h1 h2 h5) h1 (by have := (Array.getElem?_eq_some_iff.1 hi).1; omega) h5⟩
/-- what comes of the bytes: a name, a stand, a count, a flag. -/
def sN {bb pb : Nat} (m : PM bb pb) (σ : List UInt8) (nm : ByteArray) : List UInt8 := (m.text σ nm).1
def sS {bb pb : Nat} (m : PM bb pb) (σ : List UInt8) (off : Int) (dst : Bool) (ab : ByteArray) : List UInt8 := (m.text (m.flag (m.num σ off).1 dst).1 ab).1

set_option maxRecDepth 100000 in
set_option maxHeartbeats 4000000 in
theorem pass_0 {bb pb : Nat} (m : PM bb pb) (W : World) (σ : List UInt8) (b : Nat) (cs : Array Value) (nm : ByteArray) (off : Int) (dst : Bool) (ab : ByteArray) (has : Bool) (hS : Hid (m.St W σ)) (hblk : Hid (W.heap[b]? = some (.cells cs 46 (0, 0)))) (hb1 : b ≠ bb) (hb2 : b ≠ pb) (hlw : m.lw ≤ b)
    (hc0 : cs[0]? = some (.string nm)) (hc2 : cs[2]? = some (.int .i64 off)) (hc3 : cs[3]? = some (.bool dst)) (hc4 : cs[4]? = some (.string ab)) (hc5 : cs[5]? = some (.slice none 0 0)) (hc6 : cs[6]? = some (.bool has))
    (σ1 σ2 σ3 : List UInt8) (h1 : sN m σ nm = σ1) (h2 : sS m σ1 off dst ab = σ2) (h3 : m.num σ2 0 = (σ3, 0)) (hF : (m.flag σ3 has).2 = false) (HK : Hid (m.ok (m.flag σ3 has).1)) :
    Calls Tryd.prog 12 #[.pointer (some ⟨b, 0, none⟩), .agg m.agg] W fun e W' => (∃ v, e = .returned v) ∧ m.St W' (m.flag σ3 has).1 ∧
      W'.heap[b]? = some (.cells (((((cs.setIfInBounds 0 (.string (m.text σ nm).2)).setIfInBounds 2 (.int .i64 (m.num σ1 off).2)).setIfInBounds 3 (.bool (m.flag (m.num σ1 off).1 dst).2)).setIfInBounds 4 (.string (m.text (m.flag (m.num σ1 off).1 dst).1 ab).2)).setIfInBounds 6 (.bool false)) 46 (0, 0)) ∧ KT2 bb b W W' := by
  have K5 := HK.out
  have hsz6 : 6 < cs.size := (Array.getElem?_eq_some_iff.1 hc6).1
  have K3' : m.ok σ3 := m.bF _ _ K5
  have K3 : m.ok (m.num σ2 0).1 := by rw [h3]; exact K3'
  have K2 : m.ok (m.text (m.flag (m.num σ1 off).1 dst).1 ab).1 := by rw [show (m.text (m.flag (m.num σ1 off).1 dst).1 ab).1 = σ2 from h2]; exact m.bN _ _ K3
  have K1 : m.ok (m.text σ nm).1 := by rw [show (m.text σ nm).1 = σ1 from h1]; exact m.bN _ _ (m.bF _ _ (m.bT _ _ K2))
  clear K3'
  have e1 := m.eN
  have e2 := m.eF
  have e3 := m.eT
  obtain ⟨q, hq⟩ : ∃ q, W.heap.size = q := ⟨_, rfl⟩
  have hq1 : q ≠ bb := by have := (m.lt _ _ hS.out).1; omega
  have hq2 : q ≠ b := by have := (Array.getElem?_eq_some_iff.1 hblk.out).1; omega
  have P0 : Hid (PS m W q b 46 (W.alloc (.cells m.agg 63)) σ cs) := by
    have hb := (Below.refl _ W).alloc (Nat.le_refl _) (.cells m.agg 63)
    exact ⟨m.below _ _ _ hS.out hb, blk_below hb hblk.out, by rw [← hq]; exact World.alloc_heap_new W _, KT2.of_below hb⟩
  clear hS hblk HK
  go_enter Tryd.func12, Tryd.ntmps12
  go_wp2_with fail
  clear hq
  refine gen_code (fun w1 => PS m W q b 46 w1 σ cs) P0.out ?_
  clear P0
  rintro w1 P0
  have P0 : Hid (PS m W q b 46 w1 σ cs) := P0
  refine wp_region_held_drew (S := PB q m.agg) (by kernel_rfl) (P0.out.mv (below_drew1 _)).box (fun hHeld => ?_)
  have P0d : Hid (PS m W q b 46 w1.drew _ _) := P0.out.mv (below_drew1 w1)
  refine wpAnyH_take (i := 0) (v := ?_) (oi := { dst := some 7, op := _, type := _, pos := _, after := _, guard := none }) rfl (by kernel_rfl) (by kernel_rfl) (by kernel_rfl) (fun _ _ _ h => h) (Or.inl ⟨by kernel_rfl, ?_⟩) (by assumption) ?_
  case refine_2 => (intro w9 hSw; clear hSw; go_simp; try with_reducible rfl)
  simp only [Act.put, List.setIfInBounds_toArray, List.set_cons_zero, List.set_cons_succ]
  refine wpAnyH_take (i := 1) (v := ?_) (oi := { dst := some 8, op := _, type := _, pos := _, after := _, guard := none }) rfl (by kernel_rfl) (by kernel_rfl) (by kernel_rfl) (fun _ _ _ h => h) (Or.inl ⟨by kernel_rfl, ?_⟩) (by assumption) ?_
  case refine_2 => (intro w9 hSw; obtain ⟨z0, z1, z2, z3⟩ := PB.c hSw; go_simp; try with_reducible rfl)
  simp only [Act.put, List.setIfInBounds_toArray, List.set_cons_zero, List.set_cons_succ]
  refine wpAnyH_take (i := 2) (v := ?_) (oi := { dst := some 9, op := _, type := _, pos := _, after := _, guard := none }) rfl (by kernel_rfl) (by kernel_rfl) (by kernel_rfl) (fun _ _ _ h => h) (Or.inl ⟨by kernel_rfl, ?_⟩) (by assumption) ?_
  case refine_2 => (intro w9 hSw; clear hSw; go_simp; try with_reducible rfl)
  simp only [Act.put, List.setIfInBounds_toArray, List.set_cons_zero, List.set_cons_succ]
  refine wpAnyH_take (i := 3) (v := ?_) (oi := { dst := some 10, op := _, type := _, pos := _, after := _, guard := none }) rfl (by kernel_rfl) (by kernel_rfl) (by kernel_rfl) (fun _ _ _ h => h) (Or.inl ⟨by kernel_rfl, ?_⟩) (by assumption) ?_
  case refine_2 => (intro w9 hSw; clear hSw; go_simp; try with_reducible rfl)
  simp only [Act.put, List.setIfInBounds_toArray, List.set_cons_zero, List.set_cons_succ]
  refine wpAnyH_take (i := 4) (v := ?_) (oi := { dst := some 11, op := _, type := _, pos := _, after := _, guard := none }) rfl (by kernel_rfl) (by kernel_rfl) (by kernel_rfl) (fun _ _ _ h => h) (Or.inl ⟨by kernel_rfl, ?_⟩) (by assumption) ?_
  case refine_2 => (intro w9 hSw; clear hSw; go_simp; try with_reducible rfl)
  simp only [Act.put, List.setIfInBounds_toArray, List.set_cons_zero, List.set_cons_succ]
  refine wpAnyH_ready (rs := [5]) (by kernel_rfl) (by simp) (AllReadyH.cons (o := { dst := some 12, op := _, type := _, pos := _, after := _, guard := none }) rfl (fun K hK => ?_) AllReadyH.nil)
  go_simp
  refine (m.hT _ _ b 0 _ 46 nm P0d.out.st K1 P0d.out.blk hb1 hb2 (by decide) hlw hc0).mono ?_
  rintro e v1 ⟨⟨r1, rfl⟩, hst, hblk, hk2⟩
  have P1 : Hid (PS m W q b 46 v1 σ1 _) := ⟨by have h := hst; rw [show (m.text σ nm).1 = σ1 from h1] at h; exact h, hblk, hk2.blk P0d.out.box hq1 hq2 (by decide), P0d.out.kt.trans hk2⟩
  refine hK.out _ _ P1.out.box (fun hHeld => ?_)
  clear hK K hHeld hst hblk hk2 P0 P0d
  refine wpAnyH_done (by kernel_rfl) ?_ _
  go_wp2_with fail
  refine wp_region_held_drew (S := PB q m.agg) (by kernel_rfl) (P1.out.mv (below_drew1 _)).box (fun hHeld => ?_)
  have P1d : Hid (PS m W q b 46 v1.drew _ _) := P1.out.mv (below_drew1 v1)
  refine wpAnyH_take (i := 0) (v := ?_) (oi := { dst := some 13, op := _, type := _, pos := _, after := _, guard := none }) rfl (by kernel_rfl) (by kernel_rfl) (by kernel_rfl) (fun _ _ _ h => h) (Or.inl ⟨by kernel_rfl, ?_⟩) (by assumption) ?_
  case refine_2 => (intro w9 hSw; obtain ⟨z0, z1, z2, z3⟩ := PB.c hSw; go_simp; try with_reducible rfl)
  simp only [Act.put, List.setIfInBounds_toArray, List.set_cons_zero, List.set_cons_succ]
  refine wpAnyH_take (i := 1) (v := ?_) (oi := { dst := some 14, op := _, type := _, pos := _, after := _, guard := none }) rfl (by kernel_rfl) (by kernel_rfl) (by kernel_rfl) (fun _ _ _ h => h) (Or.inl ⟨by kernel_rfl, ?_⟩) (by assumption) ?_
  case refine_2 => (intro w9 hSw; clear hSw; go_simp; try with_reducible rfl)
  simp only [Act.put, List.setIfInBounds_toArray, List.set_cons_zero, List.set_cons_succ]
  refine wpAnyH_take (i := 2) (v := ?_) (oi := { dst := some 15, op := _, type := _, pos := _, after := _, guard := none }) rfl (by kernel_rfl) (by kernel_rfl) (by kernel_rfl) (fun _ _ _ h => h) (Or.inl ⟨by kernel_rfl, ?_⟩) (by assumption) ?_
  case refine_2 => (intro w9 hSw; clear hSw; go_simp; try with_reducible rfl)
  simp only [Act.put, List.setIfInBounds_toArray, List.set_cons_zero, List.set_cons_succ]
  refine wpAnyH_take (i := 3) (v := ?_) (oi := { dst := some 16, op := _, type := _, pos := _, after := _, guard := none }) rfl (by kernel_rfl) (by kernel_rfl) (by kernel_rfl) (fun _ _ _ h => h) (Or.inl ⟨by kernel_rfl, ?_⟩) (by assumption) ?_
  case refine_2 => (intro w9 hSw; clear hSw; go_simp; try with_reducible rfl)
  simp only [Act.put, List.setIfInBounds_toArray, List.set_cons_zero, List.set_cons_succ]
  refine wpAnyH_ready (rs := [4]) (by kernel_rfl) (by simp) (AllReadyH.cons (o := { dst := some 17, op := _, type := _, pos := _, after := _, guard := none }) rfl (fun K hK => ?_) AllReadyH.nil)
  go_simp
  refine (stand_any m _ _ b 1 _ 46 off dst ab P1d.out.st P1d.out.blk hb1 hb2 (by decide) hlw (by simp [hc2]) (by simp [hc3]) (by simp [hc4]) K2).mono ?_
  rintro e v2 ⟨⟨r2, rfl⟩, hst, hblk, hk2⟩
  have P2 : Hid (PS m W q b 46 v2 σ2 _) := ⟨by have h := hst; rw [show (m.text (m.flag (m.num σ1 off).1 dst).1 ab).1 = σ2 from h2] at h; exact h, hblk, hk2.blk P1d.out.box hq1 hq2 (by decide), P1d.out.kt.trans hk2⟩
  refine hK.out _ _ P2.out.box (fun hHeld => ?_)
  clear hK K hHeld hst hblk hk2 P1 P1d
  refine wpAnyH_done (by kernel_rfl) ?_ _
  have c5 := cell_of P2.out.blk (i := 5) (v := .slice none 0 0) (by simp [hc5])
  obtain ⟨z0, z1, z2, z3⟩ := PB.c P2.out.box
  have hlt : q < v2.heap.size := (Array.getElem?_eq_some_iff.1 P2.out.box).1
  go_wp2_with fail
  have hbc : Below v2.heap.size v2 (v2.alloc (.cells #[.int .i64 0] 2)) := (Below.refl _ v2).alloc (Nat.le_refl _) _
  have P3 : Hid (PS m W q b 46 (v2.alloc (.cells #[.int .i64 0] 2)) σ2 _) := P2.out.mv hbc
  obtain ⟨cb, hcb⟩ : ∃ cb, v2.heap.size = cb := ⟨_, rfl⟩
  rw [hcb]
  have hcb1 : cb ≠ bb := by have := (m.lt _ _ P2.out.st).1; omega
  have hcb2 : cb ≠ pb := by have := (m.lt _ _ P2.out.st).2; omega
  have hcb3 : cb ≠ b := by have := (Array.getElem?_eq_some_iff.1 P2.out.blk).1; omega
  have hcb4 : cb ≠ q := by have := (Array.getElem?_eq_some_iff.1 P2.out.box).1; omega
  have hcbk : (v2.alloc (.cells #[.int .i64 0] 2)).heap[cb]? = some (.cells #[.int .i64 0] 2 (0, 0)) := by rw [← hcb]; exact World.alloc_heap_new v2 _
  refine (m.hN _ _ cb 0 _ 2 0 P3.out.st K3 hcbk hcb1 hcb2 (by decide) (by have := m.le _ _ P2.out.st; omega) rfl).mono ?_
  rintro e v4 ⟨⟨r4, rfl⟩, hst, hblk, hk2⟩
  rw [h3] at hst hblk
  have P4 : Hid (PS m W q b 46 v4 σ3 _) := ⟨hst, hk2.blk P3.out.blk hb1 hcb3.symm (by decide), hk2.blk P3.out.box hq1 hcb4.symm (by decide), P3.out.kt.side hk2 (by have := P2.out.kt.1; omega)⟩
  have cc : v4.cell? ⟨cb, 0, none⟩ = some (.int .i64 0) := cell_of hblk (by simp)
  clear hst hblk hk2 P3 P2 hbc hcbk
  go_wp2_with fail
  go_loopw [28] (fun i W' => i = .int .i64 0 ∧ W' = v4) (fun _ _ => 0)
  case atStart => exact ⟨rfl, rfl⟩
  case round =>
    obtain ⟨rfl, hw⟩ := hrel
    obtain rfl := hw.symm
    clear hw
    go_wp2_with fail
    refine wp_region_held_drew (S := PB q m.agg) (by kernel_rfl) (P4.out.mv (below_drew1 _)).box (fun hHeld => ?_)
    have P4d : Hid (PS m W q b 46 v4.drew _ _) := P4.out.mv (below_drew1 v4)
    refine wpAnyH_take (i := 0) (v := ?_) (oi := { dst := some 70, op := _, type := _, pos := _, after := _, guard := none }) rfl (by kernel_rfl) (by kernel_rfl) (by kernel_rfl) (fun _ _ _ h => h) (Or.inl ⟨by kernel_rfl, ?_⟩) (by assumption) ?_
    case refine_2 => (intro w9 hSw; clear hSw; go_simp; try with_reducible rfl)
    simp only [Act.put, List.setIfInBounds_toArray, List.set_cons_zero, List.set_cons_succ]
    refine wpAnyH_take (i := 1) (v := ?_) (oi := { dst := some 71, op := _, type := _, pos := _, after := _, guard := none }) rfl (by kernel_rfl) (by kernel_rfl) (by kernel_rfl) (fun _ _ _ h => h) (Or.inl ⟨by kernel_rfl, ?_⟩) (by assumption) ?_
    case refine_2 => (intro w9 hSw; obtain ⟨z0, z1, z2, z3⟩ := PB.c hSw; go_simp; try with_reducible rfl)
    simp only [Act.put, List.setIfInBounds_toArray, List.set_cons_zero, List.set_cons_succ]
    refine wpAnyH_take (i := 2) (v := ?_) (oi := { dst := some 72, op := _, type := _, pos := _, after := _, guard := none }) rfl (by kernel_rfl) (by kernel_rfl) (by kernel_rfl) (fun _ _ _ h => h) (Or.inl ⟨by kernel_rfl, ?_⟩) (by assumption) ?_
    case refine_2 => (intro w9 hSw; clear hSw; go_simp; try with_reducible rfl)
    simp only [Act.put, List.setIfInBounds_toArray, List.set_cons_zero, List.set_cons_succ]
    refine wpAnyH_take (i := 3) (v := ?_) (oi := { dst := some 73, op := _, type := _, pos := _, after := _, guard := none }) rfl (by kernel_rfl) (by kernel_rfl) (by kernel_rfl) (fun _ _ _ h => h) (Or.inl ⟨by kernel_rfl, ?_⟩) (by assumption) ?_
    case refine_2 => (intro w9 hSw; clear hSw; go_simp; try with_reducible rfl)
    simp only [Act.put, List.setIfInBounds_toArray, List.set_cons_zero, List.set_cons_succ]
    refine wpAnyH_take (i := 4) (v := ?_) (oi := { dst := some 74, op := _, type := _, pos := _, after := _, guard := none }) rfl (by kernel_rfl) (by kernel_rfl) (by kernel_rfl) (fun _ _ _ h => h) (Or.inl ⟨by kernel_rfl, ?_⟩) (by assumption) ?_
    case refine_2 => (intro w9 hSw; clear hSw; go_simp; try with_reducible rfl)
    simp only [Act.put, List.setIfInBounds_toArray, List.set_cons_zero, List.set_cons_succ]
    refine wpAnyH_ready (rs := [5]) (by kernel_rfl) (by simp) (AllReadyH.cons (o := { dst := some 75, op := _, type := _, pos := _, after := _, guard := none }) rfl (fun K hK => ?_) AllReadyH.nil)
    go_simp
    refine (m.hF _ _ b 6 _ 46 has P4d.out.st K5 P4d.out.blk hb1 hb2 (by decide) hlw (by simp [hc6])).mono ?_
    rintro e v5 ⟨⟨r5, rfl⟩, hst, hblk, hk2⟩
    have P5 : Hid (PS m W q b 46 v5 _ _) := ⟨hst, hblk, hk2.blk P4d.out.box hq1 hq2 (by decide), P4d.out.kt.trans hk2⟩
    refine hK.out _ _ P5.out.box (fun hHeld => ?_)
    clear hK K hHeld hst hblk hk2 P4 P4d
    refine wpAnyH_done (by kernel_rfl) ?_ _
    have cF : (m.flag σ3 has).2 = false := hF
    have c6 := cell_of P5.out.blk (i := 6) (v := .bool false) (by rw [cF]; simp [hsz6])
    go_wp2_with fail
    exact bodyPost_ret (v := .tuple #[]) (by simp [results, Tryd.results12, go_sem]) rfl ⟨⟨_, rfl⟩, P5.out.st, by have h := P5.out.blk; rw [cF] at h; exact h, P5.out.kt⟩

end Go.Proofs.YtcgcljfdfimfgaaDoor
/- The machine that writes; contract: blob.writer. -/
namespace Go.Proofs.YtcgcljfdfimfgaaDoor
open Go.RowKit Sr
set_option linter.unusedVariables false

theorem set_same {cs : Array Value} {i : Nat} {v : Value} (h : cs[i]? = some v) : cs.setIfInBounds i v = cs := by
  obtain ⟨hi, he⟩ := Array.getElem?_eq_some_iff.1 h
  apply Array.ext
  · simp
  · intro j h1 h2
    rw [Array.getElem_setIfInBounds]
    split
    · rename_i e; subst e; exact he.symm
    · rfl
theorem ct_of {W : World} {bb b i : Nat} {cs : Array Value} {ty : TypeId} {fz : Nat × Nat} {v : Value} (h : W.heap[b]? = some (.cells cs ty fz)) (hb : b ≠ bb) (h5 : ty ≠ 5) (hi : cs[i]? = some v) : CT W bb ⟨b, i, none⟩ v :=
  ⟨cell_of h hi, hb, _, h, fun _ _ e => h5 (by cases e; rfl)⟩
theorem kt_done {W W' : World} {bb b i : Nat} {cs : Array Value} {ty : TypeId} {v : Value} (h : W.heap[b]? = some (.cells cs ty (0, 0))) (hb : b ≠ bb) (h5 : ty ≠ 5) (hi : cs[i]? = some v) (k : KT bb W W') : W'.heap[b]? = some (.cells (cs.setIfInBounds i v) ty (0, 0)) := by
  rw [set_same hi]; exact k.2 _ _ h hb (fun _ _ e => h5 (by cases e; rfl))
def flB (x : Bool) : UInt8 := if x then 1 else 0
/-- the closures that write. -/
def wPM (w0 : World) (bb base pb : Nat) : PM bb pb where
  kN := 30
  kO := 32
  kF := 33
  kT := 34
  lo := w0.heap.size
  lw := 0
  St W σ := WS w0 bb base W σ ∧ 0 < σ.length ∧ W.heap[pb]? = some (.cells #[putF bb] 65 (0, 0)) ∧ pb ≠ bb
  ok σ := σ.length ≤ 900000
  num σ x := (σ ++ beB 8 (u64N x), x)
  oct σ x := (σ ++ [x], x)
  flag σ x := (σ ++ [flB x], x)
  text σ s := (σ ++ (UInt8.ofNat s.size :: s.data.toList), s)
  hN W σ b i cs ty x hS hk hblk hb hb2 h5 _ hi := by
    refine (wnum_any w0 bb base pb W σ hS.1 (by simp at hk; omega) hS.2.1 ⟨b, i, none⟩ x (ct_of hblk hb h5 hi) (ct_of hS.2.2.1 hS.2.2.2 (by decide) rfl)).mono ?_
    rintro e W' ⟨hv, hw, hkt⟩
    exact ⟨hv, ⟨hw, by have := hS.2.1; simp; try omega, (KT.boxed hkt hS.2.2.1 hS.2.2.2 (by decide)), hS.2.2.2⟩, kt_done hblk hb h5 hi hkt, KT2.of_kt hkt⟩
  hO W σ b i cs ty x hS hk hblk hb hb2 h5 _ hi := by
    refine (woct_any w0 bb base pb W σ hS.1 (by simp at hk; omega) hS.2.1 ⟨b, i, none⟩ _ x rfl (ct_of hblk hb h5 hi) (ct_of hS.2.2.1 hS.2.2.2 (by decide) rfl)).mono ?_
    rintro e W' ⟨hv, hw, hkt⟩
    exact ⟨hv, ⟨hw, by have := hS.2.1; simp; try omega, (KT.boxed hkt hS.2.2.1 hS.2.2.2 (by decide)), hS.2.2.2⟩, kt_done hblk hb h5 hi hkt, KT2.of_kt hkt⟩
  hF W σ b i cs ty x hS hk hblk hb hb2 h5 _ hi := by
    cases x
    · refine (wflag_false w0 bb base pb W σ hS.1 (by simp at hk; omega) hS.2.1 ⟨b, i, none⟩ (ct_of hblk hb h5 hi) (ct_of hS.2.2.1 hS.2.2.2 (by decide) rfl)).mono ?_
      rintro e W' ⟨hv, hw, hkt⟩
      exact ⟨hv, ⟨hw, by have := hS.2.1; simp; try omega, (KT.boxed hkt hS.2.2.1 hS.2.2.2 (by decide)), hS.2.2.2⟩, kt_done hblk hb h5 hi hkt, KT2.of_kt hkt⟩
    · refine (wflag_true w0 bb base pb W σ hS.1 (by simp at hk; omega) hS.2.1 ⟨b, i, none⟩ (ct_of hblk hb h5 hi) (ct_of hS.2.2.1 hS.2.2.2 (by decide) rfl)).mono ?_
      rintro e W' ⟨hv, hw, hkt⟩
      exact ⟨hv, ⟨hw, by have := hS.2.1; simp; try omega, (KT.boxed hkt hS.2.2.1 hS.2.2.2 (by decide)), hS.2.2.2⟩, kt_done hblk hb h5 hi hkt, KT2.of_kt hkt⟩
  hT W σ b i cs ty x hS hk hblk hb hb2 h5 _ hi := by
    have hz : x.data.toList.length = x.size := Array.length_toList
    refine (wtext_any w0 bb base pb W σ hS.1 (by simp at hk; omega) hS.2.1 ⟨b, i, none⟩ x (by simp only [List.length_append, List.length_cons, hz] at hk; omega) (ct_of hblk hb h5 hi) (ct_of hS.2.2.1 hS.2.2.2 (by decide) rfl)).mono ?_
    rintro e W' ⟨hv, hw, hkt⟩
    exact ⟨hv, ⟨hw, by have := hS.2.1; simp; try omega, (KT.boxed hkt hS.2.2.1 hS.2.2.2 (by decide)), hS.2.2.2⟩, kt_done hblk hb h5 hi hkt, KT2.of_kt hkt⟩
  bN σ x h := by simp at h; omega
  bO σ x h := by simp at h; omega
  bF σ x h := by simp at h; omega
  bT σ x h := by simp at h; omega
  eN args w := by kernel_rfl
  eO args w := by kernel_rfl
  eF args w := by kernel_rfl
  eT args w := by kernel_rfl
  below W W' σ hS hb := ⟨hS.1.mv hb, hS.2.1, blk_below hb hS.2.2.1, hS.2.2.2⟩
  set W σ b i cs ty v hS hblk hlo hb hb2 h5 := by
    have hg := (KeepsWalks.setCell W ⟨b, i, none⟩ v).size
    have hne : ∀ k, k ≠ b → (W.setCell ⟨b, i, none⟩ v).heap[k]? = W.heap[k]? := fun k hk => Below.heap_setCell _ _ _ k (by simpa using hk)
    obtain ⟨u, hu, ho⟩ := hS.1.own
    refine ⟨⟨hS.1.below.setCell (p := ⟨b, i, none⟩) hlo v, hS.1.hb, hS.1.hbase, Nat.le_trans hS.1.hsz hg, hS.1.le, u, (hne _ (Ne.symm hb)).trans hu, ?_⟩, hS.2.1, ?_⟩
    · refine ho.mv (fun g o hgo ho' => (hne g ?_).trans ho')
      rintro rfl
      obtain ⟨cs', fz, h9⟩ := ho.blk5 g hgo
      rw [hblk] at h9
      cases h9
      exact h5 rfl
    · exact ⟨(hne pb (Ne.symm hb2)).trans hS.2.2.1, hS.2.2.2⟩
  le W σ hS := Nat.zero_le _
  grow W W' σ row hS hg hr := by
    have hne : ∀ k, k < W.heap.size → (row = some k → False) → W'.heap[k]? = W.heap[k]? := fun k hk h => hg.block k hk (fun e => h e.symm)
    obtain ⟨u, hu, ho⟩ := hS.1.own
    have h9 := hne pb (Array.getElem?_eq_some_iff.1 hS.2.2.1).1 (fun e => (hr pb e).2.2.1 rfl)
    refine ⟨⟨Below.grown hS.1.below hg hS.1.below.size (fun k hk => (hr k hk).1), hS.1.hb, hS.1.hbase, Nat.le_trans hS.1.hsz hg.size, hS.1.le, u, (hne _ hu.lt (fun e => (hr bb e).2.1 rfl)).trans hu, ?_⟩, hS.2.1, h9.trans hS.2.2.1, hS.2.2.2⟩
    refine ho.mv (fun g o hgo ho' => (hne g (Array.getElem?_eq_some_iff.1 ho').1 (fun e => ?_)).trans ho')
    obtain ⟨cs', fz, h8⟩ := ho.blk5 g hgo
    obtain ⟨_, _, _, cs2, ty2, fz2, h7, h6⟩ := hr g e
    rw [h7] at h8
    cases h8
    exact h6 rfl
  lt W σ hS := by
    obtain ⟨u, hu, ho⟩ := hS.1.own
    exact ⟨hu.lt, (Array.getElem?_eq_some_iff.1 hS.2.2.1).1⟩
  ty W σ hS := by
    obtain ⟨u, hu, ho⟩ := hS.1.own
    refine ⟨fun cs fz e => ?_, fun cs fz e => ?_⟩
    · rw [show W.heap[bb]? = _ from hu] at e; cases e
    · rw [hS.2.2.1] at e; cases e

theorem setCells_heap {b k : Nat} (hk : k ≠ b) : ∀ (vs : List Value) (W : World) (i : Nat), (W.setCells b i vs).heap[k]? = W.heap[k]?
  | [], _, _ => rfl
  | v :: vs, W, i => by rw [World.setCells, setCells_heap hk vs]; exact Below.heap_setCell _ _ _ k (by simpa using hk)
theorem results_cell1' {P : Program} {fn : Func} {p : Tmp} {ty : TypeId} (h : fn.results = #[.cell p ty]) (tmps : Array Value) (w : World) (a : Addr) (v : Value) (hp : tmps[p]?.getD undef = .pointer (some a)) (hl : (loadVar ty a).run P w = .ok v w) :
    (results fn tmps).run P w = .ok v w := by
  simp [results, h, hp, asAddr, hl]

set_option maxRecDepth 100000 in
set_option maxHeartbeats 4000000 in
theorem writer_any (bb : Nat) (w : World) :
    Calls Tryd.prog 13 #[putF bb] w fun e w' => e = .returned (.agg #[clo 30 w.heap.size, clo 32 w.heap.size, clo 33 w.heap.size, clo 34 w.heap.size]) ∧ Below w.heap.size w w' ∧ w'.heap[w.heap.size]? = some (.cells #[putF bb] 65 (0, 0)) := by
  obtain ⟨W2, hW2⟩ : ∃ W2, (w.alloc (.cells #[putF bb] 65)).alloc (.cells #[.nilFunc, .nilFunc, .nilFunc, .nilFunc] 63) = W2 := ⟨_, rfl⟩
  have X1 : Hid (Bx W2 (w.heap.size + 1) [.nilFunc, .nilFunc, .nilFunc, .nilFunc]) := by rw [← hW2]; exact Bx.newAt (w.alloc (.cells #[putF bb] 65)) [.nilFunc, .nilFunc, .nilFunc, .nilFunc] 63 (w.heap.size + 1) (by simp)
  have B1 : Hid (Below w.heap.size w W2) := by rw [← hW2]; exact ((Below.refl _ _).alloc (Nat.le_refl _) _).alloc (by simp) _
  have Y1 : Hid (W2.heap[w.heap.size]? = some (.cells #[putF bb] 65 (0, 0))) := by rw [← hW2]; exact (Below.heap_alloc _ _ _ (by simp)).trans (World.alloc_heap_new w _)
  go_enter Tryd.func13, Tryd.ntmps13
  go_wp2_with (refine wpList_store_mid rfl 63 _ _ rfl (w.heap.size + 1) 0 #[clo 30 w.heap.size, clo 32 w.heap.size, clo 33 w.heap.size, clo 34 w.heap.size] rfl rfl X1.out.there (by kernel_rfl) (all_oneCell_toArray (cs := [clo 30 w.heap.size, clo 32 w.heap.size, clo 33 w.heap.size, clo 34 w.heap.size]) (by intro v hv; simp at hv; rcases hv with rfl | rfl | rfl | rfl <;> rfl)) ?_; refine gen_list (fun V => Bx V (w.heap.size + 1) [clo 30 w.heap.size, clo 32 w.heap.size, clo 33 w.heap.size, clo 34 w.heap.size] ∧ Below w.heap.size w V ∧ V.heap[w.heap.size]? = some (.cells #[putF bb] 65 (0, 0))) ⟨X1.out.setAll [clo 30 w.heap.size, clo 32 w.heap.size, clo 33 w.heap.size, clo 34 w.heap.size] rfl, below_setCells (by omega) _ _ _ B1.out, (setCells_heap (by omega) _ _ _).trans Y1.out⟩ ?_; clear X1 B1 Y1; rintro V ⟨XV, BV, YV⟩)
  exact bodyPost_ret (v := .agg #[clo 30 w.heap.size, clo 32 w.heap.size, clo 33 w.heap.size, clo 34 w.heap.size]) (results_cell1' rfl _ _ _ _ rfl (run_loadVar_mid _ _ _ _ [clo 30 w.heap.size, clo 32 w.heap.size, clo 33 w.heap.size, clo 34 w.heap.size] _ XV.all Tryd.underlying63 rfl (by kernel_rfl))) rfl ⟨rfl, BV, YV⟩

end Go.Proofs.YtcgcljfdfimfgaaDoor
/- Contracts: zone.UTC; zone.Right and blob.shortAbbrs of the table of UTC. -/
namespace Go.Proofs.YtcgcljfdfimfgaaDoor
open Go.RowKit Sr
set_option linter.unusedVariables false

def utcL : List Value := [.string ⟨#[85, 84, 67]⟩, .int .i64 0, .int .i64 0, .bool false, .string ⟨#[85, 84, 67]⟩, .slice none 0 0, .bool false, .int .i64 0, .int .i64 0, .int .i64 0, .int .i64 0, .int .i64 0, .int .i64 0, .int .i64 0, .int .u8 0, .int .i64 0, .string ⟨#[]⟩, .int .i64 0, .int .i64 0, .int .i64 0, .int .i64 0, .int .i64 0, .int .u8 0, .int .i64 0, .string ⟨#[]⟩]
def zerL : List Value := [.string ⟨#[]⟩, .int .i64 0, .int .i64 0, .bool false, .string ⟨#[]⟩, .slice none 0 0, .bool false, .int .i64 0, .int .i64 0, .int .i64 0, .int .i64 0, .int .i64 0, .int .i64 0, .int .i64 0, .int .u8 0, .int .i64 0, .string ⟨#[]⟩, .int .i64 0, .int .i64 0, .int .i64 0, .int .i64 0, .int .i64 0, .int .u8 0, .int .i64 0, .string ⟨#[]⟩]
def ftZ : List Value := [.bool false, .int .i64 0, .int .i64 0, .int .i64 0, .int .i64 0, .int .i64 0, .int .i64 0, .int .i64 0, .int .u8 0, .int .i64 0, .string ⟨#[]⟩, .int .i64 0, .int .i64 0, .int .i64 0, .int .i64 0, .int .i64 0, .int .u8 0, .int .i64 0, .string ⟨#[]⟩]
theorem one_utc : utcL.toArray.all (·.oneCell') = true := by kernel_rfl
theorem one_zer : zerL.toArray.all (·.oneCell') = true := by kernel_rfl

set_option maxRecDepth 100000 in
set_option maxHeartbeats 4000000 in
theorem utc_any (w : World) : Calls Tryd.prog 17 #[] w fun e w' => e = .returned (.agg utcL.toArray) ∧ Below w.heap.size w w' := by
  have X1 : Hid (Bx (w.alloc (.cells zerL.toArray 46)) w.heap.size zerL) := Bx.new w zerL 46
  have B1 : Hid (Below w.heap.size w (w.alloc (.cells zerL.toArray 46))) := (Below.refl _ _).alloc (Nat.le_refl _) _
  go_enter Tryd.func17, Tryd.ntmps17
  go_wp2_with (refine wpList_store_mid rfl 46 _ _ rfl w.heap.size 0 utcL.toArray rfl rfl X1.out.there (by kernel_rfl) one_utc ?_; refine gen_list (fun V => Bx V w.heap.size utcL ∧ Below w.heap.size w V) ⟨X1.out.setAll utcL rfl, below_setCells (Nat.le_refl _) _ _ _ B1.out⟩ ?_; clear X1 B1; rintro V ⟨XV, BV⟩)
  exact bodyPost_ret (v := .agg utcL.toArray) (results_cell1' rfl _ _ _ _ rfl (run_loadVar_mid _ _ _ _ utcL _ XV.all Tryd.underlying46 rfl (by kernel_rfl))) rfl ⟨rfl, BV⟩

theorem isOff_0 (w : World) : Calls Tryd.prog 23 #[.int .i64 0] w fun e w' => e = .returned (.bool true) ∧ w' = w := by
  go_enter Tryd.func23, Tryd.ntmps23
  go_wp2_with fail
  exact bodyPost_ret (v := .bool true) (by simp [results, Tryd.results23, go_sem]) rfl ⟨rfl, rfl⟩

set_option maxRecDepth 100000 in
set_option maxHeartbeats 4000000 in
theorem right_utc (w : World) : Calls Tryd.prog 9 #[.agg utcL.toArray] w fun e w' => e = .returned (.bool true) ∧ Below w.heap.size w w' := by
  have X1 : Hid (Bx (w.alloc (.cells utcL.toArray 46)) w.heap.size utcL) := Bx.new w utcL 46
  have B1 : Hid (Below w.heap.size w (w.alloc (.cells utcL.toArray 46))) := (Below.refl _ _).alloc (Nat.le_refl _) _
  go_enter Tryd.func9, Tryd.ntmps9
  have eU : utcL.toArray = utcL.toArray := rfl
  generalize hUA : utcL.toArray = UA at *
  go_upto_region 1 with fail
  refine gen_code (fun V => Bx V w.heap.size utcL ∧ Below w.heap.size w V) ⟨X1.out, B1.out⟩ ?_
  clear X1 B1 eU
  rintro V ⟨XV, BV⟩
  have c1 := XV.c 1 rfl
  have c2 := XV.c 2 rfl
  have c5 := XV.c 5 rfl
  have hr : V.rangeAt w.heap.size 6 ftZ := XV.rng (utcL.take 6) ftZ [] rfl
  have HR : Hid (V.rangeAt w.heap.size 6 ftZ) := hr
  have HB : Hid (Below w.heap.size w V) := BV
  have HO : Hid (∀ w : World, Calls Tryd.prog 23 #[.int .i64 0] w fun e w' => e = .returned (.bool true) ∧ w' = w) := isOff_0
  clear hr XV BV
  go_wp2_with fail
  refine (HO.out _).mono ?_
  rintro e w' ⟨rfl, hw⟩
  obtain rfl := hw.symm
  clear hw HO
  go_wp2_with fail
  go_loopw [25] (fun i W => i = .int .i64 0 ∧ W = V) (fun _ _ => 0)
  case atStart => exact ⟨rfl, rfl⟩
  case round =>
    obtain ⟨rfl, hw⟩ := hrel
    obtain rfl := hw.symm
    clear hw
    go_wp2_with (refine wpList_load_mid rfl 44 _ rfl w.heap.size 6 rfl [.bool false, .int .i64 0, .int .i64 0, .int .i64 0, .int .i64 0, .int .i64 0, .int .i64 0, .int .i64 0, .int .u8 0, .int .i64 0, .string ⟨#[]⟩, .int .i64 0, .int .i64 0, .int .i64 0, .int .i64 0, .int .i64 0, .int .u8 0, .int .i64 0, .string ⟨#[]⟩] _ HR.out Tryd.underlying44 rfl (by kernel_rfl) ?_)
    exact bodyPost_ret (v := .bool true) (by simp [results, Tryd.results9, go_sem]) rfl ⟨rfl, HB.out⟩

set_option maxRecDepth 100000 in
set_option maxHeartbeats 4000000 in
theorem short_utc (w : World) : Calls Tryd.prog 11 #[.agg utcL.toArray] w fun e w' => e = .returned (.bool true) ∧ Below w.heap.size w w' := by
  have X1 : Hid (Bx (w.alloc (.cells utcL.toArray 46)) w.heap.size utcL) := Bx.new w utcL 46
  have B1 : Hid (Below w.heap.size w (w.alloc (.cells utcL.toArray 46))) := (Below.refl _ _).alloc (Nat.le_refl _) _
  go_enter Tryd.func11, Tryd.ntmps11
  generalize hUA : utcL.toArray = UA at *
  go_upto_region 1 with fail
  refine gen_code (fun V => Bx V w.heap.size utcL ∧ Below w.heap.size w V) ⟨X1.out, B1.out⟩ ?_
  clear X1 B1
  rintro V ⟨XV, BV⟩
  have c4 := XV.c 4 rfl
  have c5 := XV.c 5 rfl
  have c16 := XV.c 16 rfl
  have c24 := XV.c 24 rfl
  have HB : Hid (Below w.heap.size w V) := BV
  clear XV BV
  go_wp2_with fail
  go_loopw [8] (fun i W => i = .int .i64 0 ∧ W = V) (fun _ _ => 0)
  case atStart => exact ⟨rfl, rfl⟩
  case round =>
    obtain ⟨rfl, hw⟩ := hrel
    obtain rfl := hw.symm
    clear hw
    go_wp2_with fail
    exact bodyPost_ret (v := .bool true) (by simp [results, Tryd.results11, go_sem]) rfl ⟨rfl, HB.out⟩

end Go.Proofs.YtcgcljfdfimfgaaDoor
/- DigA, as one text. -/
/- Contract of the reference's Digits: a number's digits, below nought with a sign. -/
namespace Go.Proofs.YtcgcljfdfimfgaaDoor.Lin
open Go.RowKit
set_option linter.unusedVariables false

theorem infoU8 : (Tryd.prog.info? 5).map (fun i => (i.zero, i.size, i.bytes)) = some (some (.int .u8 0), 1, 1) := by kernel_rfl
def cellsB (l : List UInt8) : List Value := l.map fun b => .int .u8 (b.toNat : Int)
theorem cellsB_get {l : List UInt8} {j : Nat} {c : UInt8} (h : l[j]? = some c) : (cellsB l)[j]? = some (.int .u8 (c.toNat : Int)) := by simp [cellsB, h]
end Go.Proofs.YtcgcljfdfimfgaaDoor.Lin
/- Plain mathematics of a line's fields; what a byte is: contract of line.kindOf. -/
namespace Go.Proofs.YtcgcljfdfimfgaaDoor.Lin
open Go.RowKit
set_option linter.unusedVariables false

/-- a line that is under way: its fields so far, the field that is begun, whether one is, within quotes, behind the mark. -/
structure LSt where
  out : List ByteArray
  fld : List UInt8
  bg : Bool
  qu : Bool
  lf : Bool
def fin (s : LSt) : List ByteArray := if s.bg = true then s.out ++ [⟨s.fld.toArray⟩] else s.out
/-- a line's fields; none: it can not be. -/
def ends (s : LSt) : Option (List ByteArray) := if s.qu = true then none else some (fin s)
end Go.Proofs.YtcgcljfdfimfgaaDoor.Lin
/- Contract of line.split: a line's fields, or that it can not be. -/
namespace Go.Proofs.YtcgcljfdfimfgaaDoor.Lin
open Go.RowKit
set_option linter.unusedVariables false

def cellsS (l : List ByteArray) : List Value := l.map .string
theorem own_keep {w w1 : World} {base : Nat} {e : TypeId} {size : Nat} {v : Value} {n : Nat} {xs : List Value} (h : w.ownsRow base e size v n xs) (hk : ∀ k, base ≤ k → k < w.heap.size → w1.heap[k]? = w.heap[k]?) : w1.ownsRow base e size v n xs := by
  obtain ⟨h1, h2⟩ := h
  refine ⟨h1, ?_⟩
  rcases h2 with h2 | ⟨g, cap, cur, a, b, c, d⟩
  · exact .inl h2
  · exact .inr ⟨g, cap, cur, a, b, (hk g b (Array.getElem?_eq_some_iff.1 c).1).trans c, d⟩
/-- what the loop keeps: the place, the fields, the field. -/
def SpI (w : World) (t : ByteArray) (W : World) (v u : Value) (k : Nat) (o : List ByteArray) (f : List UInt8) : Prop :=
  W.heap[w.heap.size]? = some (.stringIter t k) ∧ W.ownsRow (w.heap.size + 1) 9 1 v o.length (cellsS o) ∧ W.ownsRow (w.heap.size + 1) 5 1 u f.length (cellsB f) ∧ Below w.heap.size w W
theorem SpI.size {w : World} {t : ByteArray} {W : World} {v u : Value} {k : Nat} {o : List ByteArray} {f : List UInt8} (h : SpI w t W v u k o f) : w.heap.size < W.heap.size := (Array.getElem?_eq_some_iff.1 h.1).1
theorem SpI.below {w : World} {t : ByteArray} {W W1 : World} {v u : Value} {k : Nat} {o : List ByteArray} {f : List UInt8} (h : SpI w t W v u k o f) (hb : Below W.heap.size W W1) : SpI w t W1 v u k o f :=
  ⟨(hb.block _ h.size).trans h.1, own_keep h.2.1 (fun k _ hk => hb.block k hk), own_keep h.2.2.1 (fun k _ hk => hb.block k hk), h.2.2.2.trans (hb.mono h.2.2.2.size)⟩
theorem iterPos_at {w : World} {k : Nat} {s : ByteArray} {p : Nat} (h : w.heap[k]? = some (.stringIter s p)) : w.iterPos k = p := by simp [World.iterPos, h]

end Go.Proofs.YtcgcljfdfimfgaaDoor.Lin
/- Contract of the reference's one: a line's fields, or that it can not be; its machine and the program's come to the same. -/
namespace Go.Proofs.YtcgcljfdfimfgaaDoor.Lin
open Go.RowKit
set_option linter.unusedVariables false

end Go.Proofs.YtcgcljfdfimfgaaDoor.Lin
/- Contracts: src.isLetter, src.isDigit, letterReader.read. -/
namespace Go.Proofs.YtcgcljfdfimfgaaDoor
open Go.RowKit Lin
set_option linter.unusedVariables false

def isL (R : Int) : Bool := decide (97 ≤ R ∧ R ≤ 122) || decide (65 ≤ R ∧ R ≤ 90)
def isD (R : Int) : Bool := decide (48 ≤ R ∧ R ≤ 57)
theorem ret_bl {a b : Bool} (h : a = b) : Ending.returned (.bool a) = .returned (.bool b) := by rw [h]

set_option maxRecDepth 100000 in
set_option maxHeartbeats 4000000 in
theorem isLetter_any (R : Int) (w : World) : Calls Tryd.prog 25 #[.int .i32 R] w fun e w' => e = .returned (.bool (isL R)) ∧ w' = w := by
  go_enter Tryd.func25, Tryd.ntmps25
  go_wp2
  all_goals (go_ret; exact ⟨ret_bl (by unfold isL; by_cases a1 : 97 ≤ R <;> by_cases a2 : R ≤ 122 <;> by_cases a3 : 65 ≤ R <;> by_cases a4 : R ≤ 90 <;> simp_all <;> omega), rfl⟩)

set_option maxRecDepth 100000 in
set_option maxHeartbeats 4000000 in
theorem isDigit_any (R : Int) (w : World) : Calls Tryd.prog 26 #[.int .i32 R] w fun e w' => e = .returned (.bool (isD R)) ∧ w' = w := by
  go_enter Tryd.func26, Tryd.ntmps26
  go_wp2
  all_goals (go_ret; exact ⟨ret_bl (by simp [isD] <;> omega), rfl⟩)

theorem drop_cons {s : ByteArray} {k : Nat} (h : k < s.size) : ∃ c : UInt8, s.data.toList.drop k = c :: s.data.toList.drop (k + 1) ∧ s[k]'h = c := by
  refine ⟨s[k]'h, ?_, rfl⟩
  rw [List.drop_eq_getElem_cons (by simpa using h)]
  rfl

end Go.Proofs.YtcgcljfdfimfgaaDoor
/- Plain mathematics of the parts of a text: which part a rune is of, and what comes of a text rune by rune. -/
namespace Go.Proofs.YtcgcljfdfimfgaaDoor.Wrd
set_option linter.unusedVariables false

/-- the byte at a place. -/
def bt (s : ByteArray) (i : Nat) : Nat := (s.get! i).toNat

/-- a rune is one byte; or broken; or two to four bytes, all of them above 127. -/
theorem dec_shape (s : ByteArray) (pos : Nat) (h : pos < s.size) :
    (bt s pos < 128 ∧ Utf8.decode s pos = (bt s pos, 1)) ∨
    (128 ≤ bt s pos ∧ Utf8.decode s pos = (65533, 1)) ∨
    (128 ≤ bt s pos ∧ 2 ≤ (Utf8.decode s pos).2 ∧ (Utf8.decode s pos).2 ≤ 4 ∧ pos + (Utf8.decode s pos).2 ≤ s.size ∧ 128 ≤ (Utf8.decode s pos).1 ∧
      (∀ j, 1 ≤ j → j < (Utf8.decode s pos).2 → 128 ≤ bt s (pos + j)) ∧ Lib.runeLen ((Utf8.decode s pos).1 : Int) = ((Utf8.decode s pos).2 : Int)) := by
  have h0 : bt s pos < 256 := UInt8.toNat_lt _
  have h1 : bt s (pos + 1) < 256 := UInt8.toNat_lt _
  have h2 : bt s (pos + 2) < 256 := UInt8.toNat_lt _
  have h3 : bt s (pos + 3) < 256 := UInt8.toNat_lt _
  have e := Lib.decode_at s pos
  change Utf8.decode s pos = Lib.decodeN (s.size - pos) (bt s pos) (bt s (pos + 1)) (bt s (pos + 2)) (bt s (pos + 3)) at e
  rcases Lib.decodeN_shape (s.size - pos) (bt s pos) (bt s (pos + 1)) (bt s (pos + 2)) (bt s (pos + 3)) with ⟨c, q⟩ | ⟨c1, c2, c3, cv, q⟩ | ⟨c1, c2, c3, c4, cv, cs, q⟩ | ⟨c1, c2, c3, c4, c5, cv, cw, q⟩ | q
  · exact .inl ⟨c, e.trans q⟩
  · rw [e, q]
    refine .inr (.inr ⟨by omega, by simp, by simp, by simp; omega, by simp; omega, ?_, ?_⟩)
    · intro j a b
      obtain rfl : j = 1 := by simp at b; omega
      omega
    · unfold Lib.runeLen; dsimp only; repeat' split
      all_goals omega
  · rw [e, q]
    refine .inr (.inr ⟨by omega, by simp, by simp, by simp; omega, by simp; omega, ?_, ?_⟩)
    · intro j a b
      have : j = 1 ∨ j = 2 := by simp at b; omega
      rcases this with rfl | rfl <;> omega
    · unfold Lib.runeLen; dsimp only; repeat' split
      all_goals omega
  · rw [e, q]
    refine .inr (.inr ⟨by omega, by simp, by simp, by simp; omega, by simp; omega, ?_, ?_⟩)
    · intro j a b
      have : j = 1 ∨ j = 2 ∨ j = 3 := by simp at b; omega
      rcases this with rfl | rfl | rfl <;> omega
    · unfold Lib.runeLen; dsimp only; repeat' split
      all_goals omega
  · by_cases c : bt s pos < 128
    · refine .inl ⟨c, ?_⟩
      rw [e]; unfold Lib.decodeN; rw [if_pos c]
    · exact .inr (.inl ⟨by omega, e.trans q⟩)

theorem wd_pos (s : ByteArray) (pos : Nat) : 1 ≤ (Utf8.decode s pos).2 := Lib.width_pos s pos
theorem wd_le (s : ByteArray) (pos : Nat) (h : pos < s.size) : pos + (Utf8.decode s pos).2 ≤ s.size := by
  rcases dec_shape s pos h with ⟨_, e⟩ | ⟨_, e⟩ | ⟨_, _, _, e, _⟩
  · rw [e]; simp only; omega
  · rw [e]; simp only; omega
  · exact e
end Go.Proofs.YtcgcljfdfimfgaaDoor.Wrd
