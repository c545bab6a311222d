import Derived.Test.YtcgcljfdfimfgaaDoorR18
import Derived.Test.YtcgcljfdfimfgaaDoorR19
/- Contract: blob.pass, whole, by either machine. -/
namespace Go.Proofs.YtcgcljfdfimfgaaDoor
open Go.RowKit Sr
set_option linter.unusedVariables false

theorem loop_step {bb pb : Nat} {m : PM bb pb} {k j : Nat} {R D E : List TrR} {σ σ4 : List UInt8} (h : loopF m (k + 1) R σ = (σ4, E.drop j)) (hD : D = E.take j) (hDl : D.length = j) :
    loopF m k R.tail (trF m σ (R.headD zTr)).1 = (σ4, E.drop (j + 1)) ∧ D ++ [(trF m σ (R.headD zTr)).2] = E.take (j + 1) := by
  have h1 : (loopF m k R.tail (trF m σ (R.headD zTr)).1).1 = σ4 := congrArg Prod.fst h
  have h2 : (trF m σ (R.headD zTr)).2 :: (loopF m k R.tail (trF m σ (R.headD zTr)).1).2 = E.drop j := congrArg Prod.snd h
  have hlt : j < E.length := by
    have := congrArg List.length h2
    simp at this
    omega
  rw [List.drop_eq_getElem_cons hlt, List.cons.injEq] at h2
  refine ⟨Prod.ext h1 h2.2, ?_⟩
  rw [hD, h2.1, List.take_succ_eq_append_getElem hlt]
theorem infoTr : (Tryd.prog.info? 23).map (fun i => (i.zero, i.size, i.bytes)) = some (some (.agg #[.int .i64 0, .int .i64 0, .bool false, .string ⟨#[]⟩]), 4, 40) := by kernel_rfl
theorem cells_of_new (w : World) (l : List Value) (t : TypeId) : ∀ j u, l[j]? = some u → (w.alloc (.cells l.toArray t)).cell? ((⟨w.heap.size, 0, none⟩ : Addr).add j) = some u := fun j u hu => by
  rw [addr_add0, Nat.zero_add]; exact (Bx.new w l t).c j hu
theorem own_set9 {W : World} {base n tb i : Nat} {v u : Value} {xs : List Value} {cs : Array Value} {ty : TypeId} {fz : Nat × Nat} (h : W.ownsRow base 23 4 v n xs) (ht : W.heap[tb]? = some (.cells cs ty fz)) (hty : ty ≠ 23) : (W.setCell ⟨tb, i, none⟩ u).ownsRow base 23 4 v n xs := by
  obtain ⟨h1, h2⟩ := h
  refine ⟨h1, ?_⟩
  rcases h2 with h2 | ⟨g, cap, cur, a, b, c, d⟩
  · exact .inl h2
  · exact .inr ⟨g, cap, cur, a, b, (Below.heap_setCell _ _ _ g (by simp; rintro rfl; rw [ht] at c; cases c; exact hty rfl)).trans c, d⟩
theorem own_kt {bb pb tb : Nat} {W W' : World} {base n : Nat} {v : Value} {xs : List Value} (h : W.ownsRow base 23 4 v n xs) (k : KT2 bb tb W W') (ht : (∀ cs fz, W.heap[bb]? ≠ some (.cells cs 23 fz)) ∧ (∀ cs fz, W.heap[pb]? ≠ some (.cells cs 23 fz))) (htb : ∀ cs fz, W.heap[tb]? ≠ some (.cells cs 23 fz)) : W'.ownsRow base 23 4 v n xs := by
  obtain ⟨h1, h2⟩ := h
  refine ⟨h1, ?_⟩
  rcases h2 with h2 | ⟨g, cap, cur, a, b, c, d⟩
  · exact .inl h2
  · exact .inr ⟨g, cap, cur, a, b, k.blk c (by rintro rfl; exact ht.1 _ _ c) (by rintro rfl; exact htb _ _ c) (by decide), d⟩

set_option maxRecDepth 100000 in
set_option maxHeartbeats 8000000 in
theorem pass_none {bb pb : Nat} (m : PM bb pb) (W : World) (σ : List UInt8) (tb : Nat) (cs : Array Value) (nm : ByteArray) (off : Int) (dst : Bool) (ab : ByteArray) (has : Bool) (ao : Option Addr) (n0 c0 : Nat) (L E : List TrR) (cnt : Int) (NK : Nat) (hS : Hid (m.St W σ)) (hblk : Hid (W.heap[tb]? = some (.cells cs 46 (0, 0)))) (hb1 : tb ≠ bb) (hb2 : tb ≠ pb) (hlw : m.lw ≤ tb) (hlo : m.lo ≤ tb)
    (hc0 : cs[0]? = some (.string nm)) (hc2 : cs[2]? = some (.int .i64 off)) (hc3 : cs[3]? = some (.bool dst)) (hc4 : cs[4]? = some (.string ab)) (hc5 : cs[5]? = some (.slice ao n0 c0)) (hc6 : cs[6]? = some (.bool has)) (hL : L.length = n0) (HOW : Hid (W.ownsRow m.lw 23 4 (.slice ao n0 c0) n0 (trCs L)))
    (σ1 σ2 σ3 σ4 : List UInt8) (h1 : sN m σ nm = σ1) (h2 : sS m σ1 off dst ab = σ2) (h3 : m.num σ2 (n0 : Int) = (σ3, cnt)) (hNK : (min cnt 4096).toNat = NK) (HLP : Hid (loopF m (NK - 0) L σ3 = (σ4, E.drop 0))) (hgr : m.lo ≤ m.lw ∨ NK ≤ n0) (hF : (m.flag σ4 has).2 = false) (HK : Hid (m.ok (m.flag σ4 has).1)) :
    Calls Tryd.prog 12 #[.pointer (some ⟨tb, 0, none⟩), .agg m.agg] W fun e W' => (∃ v, e = .returned v) ∧ m.St W' (m.flag σ4 has).1 ∧ ∃ v', W'.heap[tb]? = some (.cells ((((((cs.setIfInBounds 0 (.string (m.text σ nm).2)).setIfInBounds (1 + 1) (.int .i64 (m.num σ1 off).2)).setIfInBounds (1 + 2) (.bool (m.flag (m.num σ1 off).1 dst).2)).setIfInBounds (1 + 3) (.string (m.text (m.flag (m.num σ1 off).1 dst).1 ab).2)).setIfInBounds 5 v').setIfInBounds 6 (.bool false)) 46 (0, 0)) ∧ W'.ownsRow m.lw 23 4 v' E.length (trCs E) ∧ KT3 bb tb W W' := by
  have K5 := HK.out
  have K4 : m.ok σ4 := m.bF _ _ K5
  have K3' : m.ok σ3 := ok_loop m (NK - 0) L σ3 (by rw [HLP.out]; exact K4)
  have K3 : m.ok (m.num σ2 (n0 : Int)).1 := by rw [h3]; exact K3'
  have K2 : m.ok (m.text (m.flag (m.num σ1 off).1 dst).1 ab).1 := by rw [show (m.text (m.flag (m.num σ1 off).1 dst).1 ab).1 = σ2 from h2]; exact m.bN _ _ K3
  have K1 : m.ok (m.text σ nm).1 := by rw [show (m.text σ nm).1 = σ1 from h1]; exact m.bN _ _ (m.bF _ _ (m.bT _ _ K2))
  clear K3'
  have e1 := m.eN
  have e2 := m.eF
  have e3 := m.eT
  have hS0 : Hid (m.St W σ) := hS
  have htt : ∀ cs fz, W.heap[tb]? ≠ some (.cells cs 23 fz) := fun _ _ e => by rw [hblk.out] at e; cases e
  obtain ⟨q, hq⟩ : ∃ q, W.heap.size = q := ⟨_, rfl⟩
  have hq1 : q ≠ bb := by have := (m.lt _ _ hS.out).1; omega
  have hq2 : q ≠ tb := by have := (Array.getElem?_eq_some_iff.1 hblk.out).1; omega
  have P0 : Hid (PS m W q tb 46 (W.alloc (.cells m.agg 63)) σ cs) := by
    have hb := (Below.refl _ W).alloc (Nat.le_refl _) (.cells m.agg 63)
    exact ⟨m.below _ _ _ hS.out hb, blk_below hb hblk.out, by rw [← hq]; exact World.alloc_heap_new W _, KT2.of_below hb⟩
  clear hS hblk HK
  go_enter Tryd.func12, Tryd.ntmps12
  go_wp2_with fail
  clear hq
  refine gen_code (fun w1 => PS m W q tb 46 w1 σ cs) P0.out ?_
  clear P0
  rintro w1 P0
  have P0 : Hid (PS m W q tb 46 w1 σ cs) := P0
  refine wp_region_held_drew (S := PB q m.agg) (by kernel_rfl) (P0.out.mv (below_drew1 _)).box (fun hHeld => ?_)
  have P0d : Hid (PS m W q tb 46 w1.drew _ _) := P0.out.mv (below_drew1 w1)
  refine wpAnyH_take (i := 0) (v := ?_) (oi := { dst := some 7, op := _, type := _, pos := _, after := _, guard := none }) rfl (by kernel_rfl) (by kernel_rfl) (by kernel_rfl) (fun _ _ _ h => h) (Or.inl ⟨by kernel_rfl, ?_⟩) (by assumption) ?_
  case refine_2 => (intro w9 hSw; clear hSw; go_simp; try with_reducible rfl)
  simp only [Act.put, List.setIfInBounds_toArray, List.set_cons_zero, List.set_cons_succ]
  refine wpAnyH_take (i := 1) (v := ?_) (oi := { dst := some 8, op := _, type := _, pos := _, after := _, guard := none }) rfl (by kernel_rfl) (by kernel_rfl) (by kernel_rfl) (fun _ _ _ h => h) (Or.inl ⟨by kernel_rfl, ?_⟩) (by assumption) ?_
  case refine_2 => (intro w9 hSw; obtain ⟨z0, z1, z2, z3⟩ := PB.c hSw; go_simp; try with_reducible rfl)
  simp only [Act.put, List.setIfInBounds_toArray, List.set_cons_zero, List.set_cons_succ]
  refine wpAnyH_take (i := 2) (v := ?_) (oi := { dst := some 9, op := _, type := _, pos := _, after := _, guard := none }) rfl (by kernel_rfl) (by kernel_rfl) (by kernel_rfl) (fun _ _ _ h => h) (Or.inl ⟨by kernel_rfl, ?_⟩) (by assumption) ?_
  case refine_2 => (intro w9 hSw; clear hSw; go_simp; try with_reducible rfl)
  simp only [Act.put, List.setIfInBounds_toArray, List.set_cons_zero, List.set_cons_succ]
  refine wpAnyH_take (i := 3) (v := ?_) (oi := { dst := some 10, op := _, type := _, pos := _, after := _, guard := none }) rfl (by kernel_rfl) (by kernel_rfl) (by kernel_rfl) (fun _ _ _ h => h) (Or.inl ⟨by kernel_rfl, ?_⟩) (by assumption) ?_
  case refine_2 => (intro w9 hSw; clear hSw; go_simp; try with_reducible rfl)
  simp only [Act.put, List.setIfInBounds_toArray, List.set_cons_zero, List.set_cons_succ]
  refine wpAnyH_take (i := 4) (v := ?_) (oi := { dst := some 11, op := _, type := _, pos := _, after := _, guard := none }) rfl (by kernel_rfl) (by kernel_rfl) (by kernel_rfl) (fun _ _ _ h => h) (Or.inl ⟨by kernel_rfl, ?_⟩) (by assumption) ?_
  case refine_2 => (intro w9 hSw; clear hSw; go_simp; try with_reducible rfl)
  simp only [Act.put, List.setIfInBounds_toArray, List.set_cons_zero, List.set_cons_succ]
  refine wpAnyH_ready (rs := [5]) (by kernel_rfl) (by simp) (AllReadyH.cons (o := { dst := some 12, op := _, type := _, pos := _, after := _, guard := none }) rfl (fun K hK => ?_) AllReadyH.nil)
  go_simp
  refine (m.hT _ _ tb 0 _ 46 nm P0d.out.st K1 P0d.out.blk hb1 hb2 (by decide) hlw hc0).mono ?_
  rintro e v1 ⟨⟨r1, rfl⟩, hst, hblk, hk2⟩
  have P1 : Hid (PS m W q tb 46 v1 σ1 _) := ⟨by have h := hst; rw [show (m.text σ nm).1 = σ1 from h1] at h; exact h, hblk, hk2.blk P0d.out.box hq1 hq2 (by decide), P0d.out.kt.trans hk2⟩
  refine hK.out _ _ P1.out.box (fun hHeld => ?_)
  clear hK K hHeld hst hblk hk2 P0 P0d
  refine wpAnyH_done (by kernel_rfl) ?_ _
  go_wp2_with fail
  refine wp_region_held_drew (S := PB q m.agg) (by kernel_rfl) (P1.out.mv (below_drew1 _)).box (fun hHeld => ?_)
  have P1d : Hid (PS m W q tb 46 v1.drew _ _) := P1.out.mv (below_drew1 v1)
  refine wpAnyH_take (i := 0) (v := ?_) (oi := { dst := some 13, op := _, type := _, pos := _, after := _, guard := none }) rfl (by kernel_rfl) (by kernel_rfl) (by kernel_rfl) (fun _ _ _ h => h) (Or.inl ⟨by kernel_rfl, ?_⟩) (by assumption) ?_
  case refine_2 => (intro w9 hSw; obtain ⟨z0, z1, z2, z3⟩ := PB.c hSw; go_simp; try with_reducible rfl)
  simp only [Act.put, List.setIfInBounds_toArray, List.set_cons_zero, List.set_cons_succ]
  refine wpAnyH_take (i := 1) (v := ?_) (oi := { dst := some 14, op := _, type := _, pos := _, after := _, guard := none }) rfl (by kernel_rfl) (by kernel_rfl) (by kernel_rfl) (fun _ _ _ h => h) (Or.inl ⟨by kernel_rfl, ?_⟩) (by assumption) ?_
  case refine_2 => (intro w9 hSw; clear hSw; go_simp; try with_reducible rfl)
  simp only [Act.put, List.setIfInBounds_toArray, List.set_cons_zero, List.set_cons_succ]
  refine wpAnyH_take (i := 2) (v := ?_) (oi := { dst := some 15, op := _, type := _, pos := _, after := _, guard := none }) rfl (by kernel_rfl) (by kernel_rfl) (by kernel_rfl) (fun _ _ _ h => h) (Or.inl ⟨by kernel_rfl, ?_⟩) (by assumption) ?_
  case refine_2 => (intro w9 hSw; clear hSw; go_simp; try with_reducible rfl)
  simp only [Act.put, List.setIfInBounds_toArray, List.set_cons_zero, List.set_cons_succ]
  refine wpAnyH_take (i := 3) (v := ?_) (oi := { dst := some 16, op := _, type := _, pos := _, after := _, guard := none }) rfl (by kernel_rfl) (by kernel_rfl) (by kernel_rfl) (fun _ _ _ h => h) (Or.inl ⟨by kernel_rfl, ?_⟩) (by assumption) ?_
  case refine_2 => (intro w9 hSw; clear hSw; go_simp; try with_reducible rfl)
  simp only [Act.put, List.setIfInBounds_toArray, List.set_cons_zero, List.set_cons_succ]
  refine wpAnyH_ready (rs := [4]) (by kernel_rfl) (by simp) (AllReadyH.cons (o := { dst := some 17, op := _, type := _, pos := _, after := _, guard := none }) rfl (fun K hK => ?_) AllReadyH.nil)
  go_simp
  refine (stand_any m _ _ tb 1 _ 46 off dst ab P1d.out.st P1d.out.blk hb1 hb2 (by decide) hlw (by simp [hc2]) (by simp [hc3]) (by simp [hc4]) K2).mono ?_
  rintro e v2 ⟨⟨r2, rfl⟩, hst, hblk, hk2⟩
  have P2 : Hid (PS m W q tb 46 v2 σ2 _) := ⟨by have h := hst; rw [show (m.text (m.flag (m.num σ1 off).1 dst).1 ab).1 = σ2 from h2] at h; exact h, hblk, hk2.blk P1d.out.box hq1 hq2 (by decide), P1d.out.kt.trans hk2⟩
  refine hK.out _ _ P2.out.box (fun hHeld => ?_)
  clear hK K hHeld hst hblk hk2 P1 P1d
  refine wpAnyH_done (by kernel_rfl) ?_ _
  have c5 := cell_of P2.out.blk (i := 5) (v := .slice ao n0 c0) (by simp [hc5])
  obtain ⟨z0, z1, z2, z3⟩ := PB.c P2.out.box
  have hlt : q < v2.heap.size := (Array.getElem?_eq_some_iff.1 P2.out.box).1
  go_wp2_with fail
  have hbc : Below v2.heap.size v2 (v2.alloc (.cells #[.int .i64 (n0 : Int)] 2)) := (Below.refl _ v2).alloc (Nat.le_refl _) _
  have P3 : Hid (PS m W q tb 46 (v2.alloc (.cells #[.int .i64 (n0 : Int)] 2)) σ2 _) := P2.out.mv hbc
  obtain ⟨cb, hcb⟩ : ∃ cb, v2.heap.size = cb := ⟨_, rfl⟩
  rw [hcb]
  have hcb1 : cb ≠ bb := by have := (m.lt _ _ P2.out.st).1; omega
  have hcb2 : cb ≠ pb := by have := (m.lt _ _ P2.out.st).2; omega
  have hcb3 : cb ≠ tb := by have := (Array.getElem?_eq_some_iff.1 P2.out.blk).1; omega
  have hcb4 : cb ≠ q := by have := (Array.getElem?_eq_some_iff.1 P2.out.box).1; omega
  have hcbk : (v2.alloc (.cells #[.int .i64 (n0 : Int)] 2)).heap[cb]? = some (.cells #[.int .i64 (n0 : Int)] 2 (0, 0)) := by rw [← hcb]; exact World.alloc_heap_new v2 _
  refine (m.hN _ _ cb 0 _ 2 (n0 : Int) P3.out.st K3 hcbk hcb1 hcb2 (by decide) (by have := m.le _ _ P2.out.st; omega) rfl).mono ?_
  rintro e v4 ⟨⟨r4, rfl⟩, hst, hblk, hk2⟩
  rw [h3] at hst hblk
  have P4 : Hid (PS m W q tb 46 v4 σ3 _) := ⟨hst, hk2.blk P3.out.blk hb1 hcb3.symm (by decide), hk2.blk P3.out.box hq1 hcb4.symm (by decide), P3.out.kt.side hk2 (by have := P2.out.kt.1; omega)⟩
  have cc : v4.cell? ⟨cb, 0, none⟩ = some (.int .i64 cnt) := cell_of hblk (by simp)
  have HOW4 : v4.ownsRow m.lw 23 4 (.slice ao n0 c0) n0 (trCs L) := own_kt HOW.out P4.out.kt (m.ty _ _ hS0.out) htt
  clear hst hblk hk2 P3 P2 hbc hcbk
  go_wp2_with fail
  have hown4 : v4.ownsRow m.lw 23 4 (.slice ao n0 c0) n0 (trCs L) := HOW4
  obtain ⟨TT, hTT⟩ : ∃ TT, ((((cs.setIfInBounds 0 (.string (m.text σ nm).2)).setIfInBounds (1 + 1) (.int .i64 (m.num σ1 off).2)).setIfInBounds (1 + 2) (.bool (m.flag (m.num σ1 off).1 dst).2)).setIfInBounds (1 + 3) (.string (m.text (m.flag (m.num σ1 off).1 dst).1 ab).2)) = TT := ⟨_, rfl⟩
  rw [hTT] at P4
  have hTz : TT.size = cs.size := by rw [← hTT]; simp
  have hT5 : 5 < TT.size := by rw [hTz]; exact (Array.getElem?_eq_some_iff.1 hc5).1
  have hT6 : TT[6]? = some (.bool has) := by rw [← hTT]; simp [hc6]
  have hT6l : 6 < TT.size := (Array.getElem?_eq_some_iff.1 hT6).1
  have hTv : TT[5]? = some (.slice ao n0 c0) := by rw [← hTT]; simp [hc5]
  have PT0 : Hid (PT m W q tb v4 σ3 TT (.slice ao n0 c0) L) := ⟨P4.out.st, by rw [set_same hTv]; exact P4.out.blk, P4.out.box, by rw [hL]; exact hown4, KT3.of_kt2 P4.out.kt⟩
  have HTT : Hid (((((cs.setIfInBounds 0 (.string (m.text σ nm).2)).setIfInBounds (1 + 1) (.int .i64 (m.num σ1 off).2)).setIfInBounds (1 + 2) (.bool (m.flag (m.num σ1 off).1 dst).2)).setIfInBounds (1 + 3) (.string (m.text (m.flag (m.num σ1 off).1 dst).1 ab).2)) = TT) := hTT
  clear hTT P4 hown4 HOW4
  go_loopw [28] (fun iv wr => ∃ (j : Nat) (σj : List UInt8) (D R : List TrR) (vj : Value), iv = .int .i64 (j : Int) ∧ j ≤ NK ∧ D.length = j ∧ n0 ≤ D.length + R.length ∧ Hid (PT m W q tb wr σj TT vj (D ++ R)) ∧ Hid (loopF m (NK - j) R σj = (σ4, E.drop j)) ∧ Hid (D = E.take j)) (fun iv _ => NK - (intOf iv).toNat)
  case atStart => exact ⟨0, σ3, [], L, .slice ao n0 c0, rfl, Nat.zero_le _, rfl, by simp [hL], PT0, HLP, rfl⟩
  case round =>
    obtain ⟨j, σj, D, R, vj, rfl, hj, hjn, hnn, HP, HLj, HDj⟩ := hrel
    by_cases hjK : j < NK
    · have hjm : (j : Int) < min cnt 4096 := by omega
      obtain ⟨kk, hkk⟩ : ∃ kk, NK - j = kk + 1 := ⟨NK - j - 1, by omega⟩
      rw [hkk] at HLj
      cases R with
      | cons x R =>
        obtain ⟨n, hn⟩ : ∃ n, (D ++ x :: R).length = n := ⟨_, rfl⟩
        have hn1 : D.length < n := by rw [← hn]; simp
        have hown9 := HP.out.own
        rw [hn] at hown9
        obtain ⟨g, cap, cur, hv9, hgl, hg9, hcap, hmax, hcz, htk⟩ := own_form4 hown9 (by omega)
        subst hv9
        have HG : Hid (wr.heap[g]? = some (.cells cur 23 (0, 0))) := hg9
        clear hown9 hg9
        have hmax' : cap ≤ 9223372036854775807 := hmax
        have hst9 := loop_step HLj.out HDj.out
        have HLn : Hid (loopF m (NK - (j + 1)) R (trF m σj x).1 = (σ4, E.drop (j + 1))) := by have h := (hst9 hjn).1; rw [show NK - (j + 1) = kk by omega]; exact h
        have HDn : Hid (D ++ [(trF m σj x).2] = E.take (j + 1)) := (hst9 hjn).2
        have KTR : m.ok (trF m σj x).1 := ok_loop m kk R _ (by rw [show loopF m kk R (trF m σj x).1 = (σ4, E.drop (j + 1)) from (hst9 hjn).1]; exact K4)
        clear hst9
        obtain ⟨hpb9, z5⟩ := HP.out.s5 hT5
        have hjn2 : ((j : Int) == (n : Int)) = false := by rw [beq_eq_false_iff_ne]; omega
        have hj0 : ¬ ((j : Int) < 0) := by omega
        clear hpb9
        go_wp2_with fail
        have hgbb : g ≠ bb := by rintro rfl; exact (m.ty _ _ HP.out.st).1 _ _ HG.out
        have hgpb : g ≠ pb := by rintro rfl; exact (m.ty _ _ HP.out.st).2 _ _ HG.out
        have hgtb : g ≠ tb := by rintro rfl; rw [HP.out.tbk] at HG; cases HG.out
        have hgq : g ≠ q := by rintro rfl; have h9 := HP.out.box; unfold PB at h9; rw [h9] at HG; cases HG.out
        have HC0 := row_get htk hn 0 (by decide) rfl
        rw [hjn, Nat.add_zero] at HC0
        have KT9 : Hid (m.ok (trF m σj x).1) := KTR
        have KN : m.ok (m.num σj x.at_).1 := ok_tr m σj x KT9.out
        refine wp_region_held_drew (S := S5 q m.agg tb (.slice (some ⟨g, 0, none⟩) n cap)) (by kernel_rfl) ((HP.out.mv (below_drew1 _)).s5 hT5) (fun hHeld => ?_)
        have HPd : Hid (PT m W q tb wr.drew σj TT (.slice (some ⟨g, 0, none⟩) n cap) (D ++ x :: R)) := HP.out.mv (below_drew1 wr)
        have HGd : Hid (wr.drew.heap[g]? = some (.cells cur 23 (0, 0))) := HG.out
        refine wpAnyH_take (i := 0) (v := ?_) (oi := { dst := some 48, op := _, type := _, pos := _, after := _, guard := none }) rfl (by kernel_rfl) (by kernel_rfl) (by kernel_rfl) (fun _ _ _ h => h) (Or.inl ⟨by kernel_rfl, ?_⟩) (by assumption) ?_
        case refine_2 => (intro w9 hSw; clear hSw; (go_simp); (try omega); try with_reducible rfl)
        simp only [Act.put, List.setIfInBounds_toArray, List.set_cons_zero, List.set_cons_succ]
        refine wpAnyH_take (i := 1) (v := ?_) (oi := { dst := some 49, op := _, type := _, pos := _, after := _, guard := none }) rfl (by kernel_rfl) (by kernel_rfl) (by kernel_rfl) (fun _ _ _ h => h) (Or.inl ⟨by kernel_rfl, ?_⟩) (by assumption) ?_
        case refine_2 => (intro w9 hSw; obtain ⟨hpb9, z5⟩ := hSw; obtain ⟨z0, z1, z2, z3⟩ := PB.c hpb9; clear hpb9; (go_simp); (try omega); try with_reducible rfl)
        simp only [Act.put, List.setIfInBounds_toArray, List.set_cons_zero, List.set_cons_succ]
        refine wpAnyH_take (i := 2) (v := ?_) (oi := { dst := some 50, op := _, type := _, pos := _, after := _, guard := none }) rfl (by kernel_rfl) (by kernel_rfl) (by kernel_rfl) (fun _ _ _ h => h) (Or.inl ⟨by kernel_rfl, ?_⟩) (by assumption) ?_
        case refine_2 => (intro w9 hSw; clear hSw; (go_simp); (try omega); try with_reducible rfl)
        simp only [Act.put, List.setIfInBounds_toArray, List.set_cons_zero, List.set_cons_succ]
        refine wpAnyH_take (i := 3) (v := ?_) (oi := { dst := some 51, op := _, type := _, pos := _, after := _, guard := none }) rfl (by kernel_rfl) (by kernel_rfl) (by kernel_rfl) (fun _ _ _ h => h) (Or.inl ⟨by kernel_rfl, ?_⟩) (by assumption) ?_
        case refine_2 => (intro w9 hSw; clear hSw; (go_simp); (try omega); try with_reducible rfl)
        simp only [Act.put, List.setIfInBounds_toArray, List.set_cons_zero, List.set_cons_succ]
        refine wpAnyH_take (i := 4) (v := ?_) (oi := { dst := some 52, op := _, type := _, pos := _, after := _, guard := none }) rfl (by kernel_rfl) (by kernel_rfl) (by kernel_rfl) (fun _ _ _ h => h) (Or.inl ⟨by kernel_rfl, ?_⟩) (by assumption) ?_
        case refine_2 => (intro w9 hSw; clear hSw; (go_simp); (try omega); try with_reducible rfl)
        simp only [Act.put, List.setIfInBounds_toArray, List.set_cons_zero, List.set_cons_succ]
        refine wpAnyH_take (i := 5) (v := ?_) (oi := { dst := some 53, op := _, type := _, pos := _, after := _, guard := none }) rfl (by kernel_rfl) (by kernel_rfl) (by kernel_rfl) (fun _ _ _ h => h) (Or.inl ⟨by kernel_rfl, ?_⟩) (by assumption) ?_
        case refine_2 => (intro w9 hSw; obtain ⟨hpb9, z5⟩ := hSw; obtain ⟨z0, z1, z2, z3⟩ := PB.c hpb9; clear hpb9; (go_simp); (try omega); try with_reducible rfl)
        simp only [Act.put, List.setIfInBounds_toArray, List.set_cons_zero, List.set_cons_succ]
        refine wpAnyH_take (i := 6) (v := ?_) (oi := { dst := some 54, op := _, type := _, pos := _, after := _, guard := none }) rfl (by kernel_rfl) (by kernel_rfl) (by kernel_rfl) (fun _ _ _ h => h) (Or.inl ⟨by kernel_rfl, ?_⟩) (by assumption) ?_
        case refine_2 => (intro w9 hSw; clear hSw; (go_simp); (try omega); try with_reducible rfl)
        simp only [Act.put, List.setIfInBounds_toArray, List.set_cons_zero, List.set_cons_succ]
        refine wpAnyH_take (i := 7) (v := .pointer (some ⟨g, j * 4, none⟩)) (oi := { dst := some 55, op := _, type := _, pos := _, after := _, guard := none }) rfl (by kernel_rfl) (by kernel_rfl) (by kernel_rfl) (fun _ _ _ h => h) (Or.inl ⟨by kernel_rfl, ?_⟩) (by assumption) ?_
        case refine_1 => (intro w9 hSw; clear hSw; (go_simp); (try omega); try with_reducible rfl)
        simp only [Act.put, List.setIfInBounds_toArray, List.set_cons_zero, List.set_cons_succ]
        refine wpAnyH_take (i := 8) (v := ?_) (oi := { dst := some 56, op := _, type := _, pos := _, after := _, guard := none }) rfl (by kernel_rfl) (by kernel_rfl) (by kernel_rfl) (fun _ _ _ h => h) (Or.inl ⟨by kernel_rfl, ?_⟩) (by assumption) ?_
        case refine_2 => (intro w9 hSw; clear hSw; (go_simp); (try omega); try with_reducible rfl)
        simp only [Act.put, List.setIfInBounds_toArray, List.set_cons_zero, List.set_cons_succ]
        refine wpAnyH_ready (rs := [9]) (by kernel_rfl) (by simp) (AllReadyH.cons (o := { dst := some 57, op := _, type := _, pos := _, after := _, guard := none }) rfl (fun K hK => ?_) AllReadyH.nil)
        go_simp
        refine (m.hN _ _ g (j * 4) cur 23 x.at_ HPd.out.st KN HGd.out hgbb hgpb (by decide) hgl HC0).mono ?_
        rintro e y1 ⟨⟨r1, rfl⟩, hst, hblk, hk2⟩
        have HP1 : Hid (PT m W q tb y1 (m.num σj x.at_).1 TT (.slice (some ⟨g, 0, none⟩) n cap) (D ++ ⟨(m.num σj x.at_).2, x.off, x.dst, x.ab⟩ :: R)) := ⟨hst, hk2.blk HPd.out.tbk hb1 (Ne.symm hgtb) (by decide), hk2.blk HPd.out.box hq1 (Ne.symm hgq) (by decide), by
          have hh := own_set (i := 0) (y := ⟨(m.num σj x.at_).2, x.off, x.dst, x.ab⟩) (by decide) hn hgl hcap hmax hcz htk rfl (by rw [Nat.add_zero, hjn]; exact hblk)
          have hn' : (D ++ (⟨(m.num σj x.at_).2, x.off, x.dst, x.ab⟩ : TrR) :: R).length = n := by rw [← hn]; simp
          rw [hn']; exact hh, HPd.out.kt.trans (KT3.of_row hk2 HGd.out)⟩
        have hg1 : y1.heap[g]? = some (.cells (cur.setIfInBounds (j * 4) (.int .i64 (m.num σj x.at_).2)) 23 (0, 0)) := hblk
        refine hK.out _ _ (HP1.out.s5 hT5) (fun hHeld => ?_)
        clear hK K hHeld hst hblk hk2 HP HPd HGd
        refine wpAnyH_done (by kernel_rfl) ?_ _
        go_wp2_with fail
        refine wp_region_held_drew (S := S5 q m.agg tb (.slice (some ⟨g, 0, none⟩) n cap)) (by kernel_rfl) ((HP1.out.mv (below_drew1 _)).s5 hT5) (fun hHeld => ?_)
        have HP2d : Hid (PT m W q tb y1.drew _ TT (.slice (some ⟨g, 0, none⟩) n cap) (D ++ ⟨(m.num σj x.at_).2, x.off, x.dst, x.ab⟩ :: R)) := HP1.out.mv (below_drew1 y1)
        obtain ⟨cur2, hcur2⟩ : ∃ cur2, cur.setIfInBounds (j * 4) (.int .i64 (m.num σj x.at_).2) = cur2 := ⟨_, rfl⟩
        rw [hcur2] at hg1
        have HG2d : Hid (y1.drew.heap[g]? = some (.cells cur2 23 (0, 0))) := hg1
        have hn2 : (D ++ (⟨(m.num σj x.at_).2, x.off, x.dst, x.ab⟩ : TrR) :: R).length = n := by rw [← hn]; simp
        have hcz2 : cur2.size = cap * 4 := by rw [← hcur2]; simpa using hcz
        have htk2 : cur2.toList.take (n * 4) = trCs (D ++ (⟨(m.num σj x.at_).2, x.off, x.dst, x.ab⟩ : TrR) :: R) := by
          have lt : D.length * 4 + 0 < n * 4 := by rw [← hn]; simp <;> omega
          rw [← hcur2, Array.toList_setIfInBounds, ← hjn, show D.length * 4 = D.length * 4 + 0 from rfl, take_set lt, htk, trCs_set D R x 0 (by decide), show (trC x).set 0 (.int .i64 (m.num σj x.at_).2) = trC ⟨(m.num σj x.at_).2, x.off, x.dst, x.ab⟩ from rfl, trCs_back]
        have HC1 := row_get htk2 hn2 1 (by decide) rfl
        have HC2 := row_get htk2 hn2 2 (by decide) rfl
        have HC3 := row_get htk2 hn2 3 (by decide) rfl
        rw [hjn] at HC1 HC2 HC3
        clear HP1 hg1 hcur2
        refine wpAnyH_take (i := 0) (v := ?_) (oi := { dst := some 58, op := _, type := _, pos := _, after := _, guard := none }) rfl (by kernel_rfl) (by kernel_rfl) (by kernel_rfl) (fun _ _ _ h => h) (Or.inl ⟨by kernel_rfl, ?_⟩) (by assumption) ?_
        case refine_2 => (intro w9 hSw; obtain ⟨hpb9, z5⟩ := hSw; obtain ⟨z0, z1, z2, z3⟩ := PB.c hpb9; clear hpb9; (go_simp); (try omega); try with_reducible rfl)
        simp only [Act.put, List.setIfInBounds_toArray, List.set_cons_zero, List.set_cons_succ]
        refine wpAnyH_take (i := 1) (v := ?_) (oi := { dst := some 59, op := _, type := _, pos := _, after := _, guard := none }) rfl (by kernel_rfl) (by kernel_rfl) (by kernel_rfl) (fun _ _ _ h => h) (Or.inl ⟨by kernel_rfl, ?_⟩) (by assumption) ?_
        case refine_2 => (intro w9 hSw; clear hSw; (go_simp); (try omega); try with_reducible rfl)
        simp only [Act.put, List.setIfInBounds_toArray, List.set_cons_zero, List.set_cons_succ]
        refine wpAnyH_take (i := 2) (v := ?_) (oi := { dst := some 60, op := _, type := _, pos := _, after := _, guard := none }) rfl (by kernel_rfl) (by kernel_rfl) (by kernel_rfl) (fun _ _ _ h => h) (Or.inl ⟨by kernel_rfl, ?_⟩) (by assumption) ?_
        case refine_2 => (intro w9 hSw; clear hSw; (go_simp); (try omega); try with_reducible rfl)
        simp only [Act.put, List.setIfInBounds_toArray, List.set_cons_zero, List.set_cons_succ]
        refine wpAnyH_take (i := 3) (v := ?_) (oi := { dst := some 61, op := _, type := _, pos := _, after := _, guard := none }) rfl (by kernel_rfl) (by kernel_rfl) (by kernel_rfl) (fun _ _ _ h => h) (Or.inl ⟨by kernel_rfl, ?_⟩) (by assumption) ?_
        case refine_2 => (intro w9 hSw; clear hSw; (go_simp); (try omega); try with_reducible rfl)
        simp only [Act.put, List.setIfInBounds_toArray, List.set_cons_zero, List.set_cons_succ]
        refine wpAnyH_take (i := 4) (v := ?_) (oi := { dst := some 62, op := _, type := _, pos := _, after := _, guard := none }) rfl (by kernel_rfl) (by kernel_rfl) (by kernel_rfl) (fun _ _ _ h => h) (Or.inl ⟨by kernel_rfl, ?_⟩) (by assumption) ?_
        case refine_2 => (intro w9 hSw; obtain ⟨hpb9, z5⟩ := hSw; obtain ⟨z0, z1, z2, z3⟩ := PB.c hpb9; clear hpb9; (go_simp); (try omega); try with_reducible rfl)
        simp only [Act.put, List.setIfInBounds_toArray, List.set_cons_zero, List.set_cons_succ]
        refine wpAnyH_take (i := 5) (v := ?_) (oi := { dst := some 63, op := _, type := _, pos := _, after := _, guard := none }) rfl (by kernel_rfl) (by kernel_rfl) (by kernel_rfl) (fun _ _ _ h => h) (Or.inl ⟨by kernel_rfl, ?_⟩) (by assumption) ?_
        case refine_2 => (intro w9 hSw; clear hSw; (go_simp); (try omega); try with_reducible rfl)
        simp only [Act.put, List.setIfInBounds_toArray, List.set_cons_zero, List.set_cons_succ]
        refine wpAnyH_take (i := 6) (v := .pointer (some ⟨g, j * 4, none⟩)) (oi := { dst := some 64, op := _, type := _, pos := _, after := _, guard := none }) rfl (by kernel_rfl) (by kernel_rfl) (by kernel_rfl) (fun _ _ _ h => h) (Or.inl ⟨by kernel_rfl, ?_⟩) (by assumption) ?_
        case refine_1 => (intro w9 hSw; clear hSw; (go_simp); (try omega); try with_reducible rfl)
        simp only [Act.put, List.setIfInBounds_toArray, List.set_cons_zero, List.set_cons_succ]
        refine wpAnyH_ready (rs := [7]) (by kernel_rfl) (by simp) (AllReadyH.cons (o := { dst := some 65, op := _, type := _, pos := _, after := _, guard := none }) rfl (fun K hK => ?_) AllReadyH.nil)
        go_simp
        refine (stand_any m _ _ g (j * 4) cur2 23 x.off x.dst x.ab HP2d.out.st HG2d.out hgbb hgpb (by decide) hgl HC1 HC2 HC3 KT9).mono ?_
        rintro e y3 ⟨⟨r3, rfl⟩, hst, hblk, hk2⟩
        have HP3 : Hid (PT m W q tb y3 (trF m σj x).1 TT (.slice (some ⟨g, 0, none⟩) n cap) (D ++ (trF m σj x).2 :: R)) := ⟨hst, hk2.blk HP2d.out.tbk hb1 (Ne.symm hgtb) (by decide), hk2.blk HP2d.out.box hq1 (Ne.symm hgq) (by decide), by
          have hh := own_set3 (x := ⟨(m.num σj x.at_).2, x.off, x.dst, x.ab⟩) hn2 hgl hcap hmax hcz2 htk2 (by rw [hjn]; exact hblk)
          have hn' : (D ++ (trF m σj x).2 :: R).length = n := by rw [← hn]; simp
          rw [hn']; exact hh, HP2d.out.kt.trans (KT3.of_row hk2 HG2d.out)⟩
        refine hK.out _ _ (HP3.out.s5 hT5) (fun hHeld => ?_)
        clear hK K hHeld hst hblk hk2 HP2d HG2d
        refine wpAnyH_done (by kernel_rfl) ?_ _
        go_wp2_with fail
        exact ⟨⟨j + 1, _, D ++ [(trF m σj x).2], R, .slice (some ⟨g, 0, none⟩) n cap, rfl, by omega, by simp [hjn], by simp at hnn ⊢; omega, by have h := HP3.out; rw [show D ++ (trF m σj x).2 :: R = (D ++ [(trF m σj x).2]) ++ R by simp] at h; exact h, HLn, HDn⟩, by simp [intOf]; omega⟩
      | nil =>
        have hnj : D.length = j := hjn
        have hlolw : m.lo ≤ m.lw := by rcases hgr with h | h; exact h; exfalso; simp at hnn; omega
        have hown9 : wr.ownsRow m.lw 23 4 vj j (trCs (D ++ [])) := by have h := HP.out.own; rw [show (D ++ ([] : List TrR)).length = j by simpa using hjn] at h; exact h
        obtain ⟨ao9, c9, hv9⟩ := own_len4 hown9
        subst hv9
        obtain ⟨hpb9, z5⟩ := HP.out.s5 hT5
        have HO9 : Hid (wr.ownsRow m.lw 23 4 (.slice ao9 j c9) j (trCs (D ++ []))) := hown9
        clear hown9 hpb9
        have hj4 : j ≤ 4096 := by omega
        obtain ⟨i1, hi1, hy0, hy1, hy2⟩ := info_parts infoTr
        have hlw9 := m.le _ _ HP.out.st
        have hZc : (Value.agg #[.int .i64 0, .int .i64 0, .bool false, .string ⟨#[]⟩]).cells.size = 4 := rfl
        go_wp2_with (at_builtin; refine wpList_append_own _ rfl _ _ 24 rfl m.lw 23 i1 (.agg #[.int .i64 0, .int .i64 0, .bool false, .string ⟨#[]⟩]) 4 40 Tryd.underlying24 hi1 hy0 hy1 hy2 hZc (by decide) (.slice ao9 j c9) j (trCs (D ++ [])) rfl (HO9.out.alloc _) ⟨wr.heap.size, 0, none⟩ 1 1 (trC zTr) rfl rfl (cells_of_new wr (trC zTr) 23) (by intro u hu; simp [trC] at hu; rcases hu with rfl | rfl | rfl | rfl <;> rfl) (by unfold maxLen; omega) (by omega) (by simp; omega) ?_)
        intro v' w9 hown' hgrow' _
        obtain ⟨w8, hw8⟩ : ∃ w8, wr.alloc (.cells (trC zTr).toArray 23) = w8 := ⟨_, rfl⟩
        have hgrow : w8.grownBy w9 (Value.slice ao9 j c9).ownBlock := by rw [← hw8]; exact hgrow'
        have hb8 : Below wr.heap.size wr w8 := by rw [← hw8]; exact (Below.refl _ wr).alloc (Nat.le_refl _) _
        have HP8 := HP.out.mv hb8
        have HO8 := own_mv HO9.out hb8
        clear hgrow'
        have hrow : ∀ k, (Value.slice ao9 j c9).ownBlock = some k → m.lw ≤ k ∧ ∃ cs fz, w8.heap[k]? = some (.cells cs 23 fz) := by
          intro k hk
          rcases HO8.2 with ⟨e, _⟩ | ⟨g, cap, cur, e, hb, hg, _⟩
          · rw [e] at hk; simp [Value.ownBlock] at hk
          · rw [e] at hk; simp [Value.ownBlock] at hk; subst hk; exact ⟨hb, _, _, hg⟩
        have hS9 : m.St w9 σj := m.grow _ _ _ _ HP8.st hgrow (fun k hk => by obtain ⟨q1, cs9, fz9, q2⟩ := hrow k hk; exact ⟨by omega, fun e => (m.ty _ _ HP8.st).1 cs9 fz9 (e ▸ q2), fun e => (m.ty _ _ HP8.st).2 cs9 fz9 (e ▸ q2), cs9, _, fz9, q2, by decide⟩)
        have ht9 : w9.heap[tb]? = some (.cells (TT.setIfInBounds 5 (.slice ao9 j c9)) 46 (0, 0)) := (hgrow.block tb (Array.getElem?_eq_some_iff.1 HP8.tbk).1 (fun e => by obtain ⟨_, cs, fz, h2⟩ := hrow tb e.symm; rw [HP8.tbk] at h2; cases h2)).trans HP8.tbk
        have hq9 : PB q m.agg w9 := (hgrow.block q (Array.getElem?_eq_some_iff.1 HP8.box).1 (fun e => by obtain ⟨_, cs, fz, h2⟩ := hrow q e.symm; have h3 := HP8.box; unfold PB at h3; rw [h3] at h2; cases h2)).trans HP8.box
        have hk9 : KT3 bb tb W w9 := HP8.kt.trans (KT3.of_grown hgrow (fun k hk => (hrow k hk).2))
        have hown1 : w9.ownsRow m.lw 23 4 v' (j + 1) (trCs (D ++ zTr :: [])) := by rw [trCs_app, trCs_cons, show trCs [] = [] from rfl, List.append_nil]; exact hown'
        have hlenD : (D ++ zTr :: []).length = j + 1 := by simp [hjn]
        obtain ⟨g1, cap1, cur1, hv1, hgl1, hg1, hcap1, hmax1, hcz1, htk1⟩ := own_form4 hown1 (by omega)
        subst hv1
        have HP3 : Hid (PT m W q tb (w9.setCell ⟨tb, 5, none⟩ (.slice (some ⟨g1, 0, none⟩) (j + 1) cap1)) σj TT (.slice (some ⟨g1, 0, none⟩) (j + 1) cap1) (D ++ zTr :: [])) := ⟨m.set _ _ tb 5 _ 46 _ hS9 ht9 hlo hb1 hb2 (by decide), by have h := setCell_heap (i := 5) (.slice (some ⟨g1, 0, none⟩) (j + 1) cap1) ht9; rw [set_set] at h; exact h, (Below.heap_setCell _ _ _ q (by simpa using hq2)).trans hq9, by
          rw [hlenD]; exact own_set9 hown1 ht9 (by decide), hk9.trans (KT3.of_kt2 (kt_wr2 _ (KT2.refl _ _ _)))⟩
        have c59 := cell_of ht9 (i := 5) (v := .slice ao9 j c9) (by simp [hT5])
        have f59 := fz_of (i := 5) ht9
        clear hown' hgrow hb8 HP8 HO8 hrow hS9 ht9 hq9 hk9 hown1 hgl1 hg1 hcap1 hcz1 htk1 hw8 HO9 HP z5
        have HLj2 : Hid (loopF m (kk + 1) [zTr] σj = (σ4, E.drop j)) := HLj
        clear HLj
        have HLj : Hid (loopF m (kk + 1) [zTr] σj = (σ4, E.drop j)) := HLj2
        clear HLj2
        obtain ⟨x, hx⟩ : ∃ x, zTr = x := ⟨_, rfl⟩
        obtain ⟨R, hR⟩ : ∃ R : List TrR, [] = R := ⟨_, rfl⟩
        rw [hx, hR] at HP3 HLj
        have hRl : R.length = 0 := by rw [← hR]; rfl
        clear hx hR
        have hj0 : ¬ ((j : Int) < 0) := by omega
        go_wp2_with fail
        obtain ⟨wz, hwz⟩ : ∃ wz, w9.setCell ⟨tb, 5, none⟩ (.slice (some ⟨g1, 0, none⟩) (j + 1) cap1) = wz := ⟨_, rfl⟩
        rw [hwz] at HP3 ⊢
        have HP : Hid (PT m W q tb wz σj TT (.slice (some ⟨g1, 0, none⟩) (j + 1) cap1) (D ++ x :: R)) := HP3
        clear HP3 hwz c59 f59
        obtain ⟨vz, hvz⟩ : ∃ vz, Value.slice (some ⟨g1, 0, none⟩) (j + 1) cap1 = vz := ⟨_, rfl⟩
        rw [hvz] at HP ⊢
        clear hvz
        obtain ⟨n, hn⟩ : ∃ n, (D ++ x :: R).length = n := ⟨_, rfl⟩
        have hn1 : D.length < n := by rw [← hn]; simp
        have hown9 := HP.out.own
        rw [hn] at hown9
        obtain ⟨g, cap, cur, hv9, hgl, hg9, hcap, hmax, hcz, htk⟩ := own_form4 hown9 (by omega)
        subst hv9
        have HG : Hid (wz.heap[g]? = some (.cells cur 23 (0, 0))) := hg9
        clear hown9 hg9
        have hmax' : cap ≤ 9223372036854775807 := hmax
        have hst9 := loop_step HLj.out HDj.out
        have HLn : Hid (loopF m (NK - (j + 1)) R (trF m σj x).1 = (σ4, E.drop (j + 1))) := by have h := (hst9 hjn).1; rw [show NK - (j + 1) = kk by omega]; exact h
        have HDn : Hid (D ++ [(trF m σj x).2] = E.take (j + 1)) := (hst9 hjn).2
        have KTR : m.ok (trF m σj x).1 := ok_loop m kk R _ (by rw [show loopF m kk R (trF m σj x).1 = (σ4, E.drop (j + 1)) from (hst9 hjn).1]; exact K4)
        clear hst9
        have hjn2 : j < n := by omega
        have hgbb : g ≠ bb := by rintro rfl; exact (m.ty _ _ HP.out.st).1 _ _ HG.out
        have hgpb : g ≠ pb := by rintro rfl; exact (m.ty _ _ HP.out.st).2 _ _ HG.out
        have hgtb : g ≠ tb := by rintro rfl; rw [HP.out.tbk] at HG; cases HG.out
        have hgq : g ≠ q := by rintro rfl; have h9 := HP.out.box; unfold PB at h9; rw [h9] at HG; cases HG.out
        have HC0 := row_get htk hn 0 (by decide) rfl
        rw [hjn, Nat.add_zero] at HC0
        have KT9 : Hid (m.ok (trF m σj x).1) := KTR
        have KN : m.ok (m.num σj x.at_).1 := ok_tr m σj x KT9.out
        refine wp_region_held_drew (S := S5 q m.agg tb (.slice (some ⟨g, 0, none⟩) n cap)) (by kernel_rfl) ((HP.out.mv (below_drew1 _)).s5 hT5) (fun hHeld => ?_)
        have HPd : Hid (PT m W q tb wz.drew σj TT (.slice (some ⟨g, 0, none⟩) n cap) (D ++ x :: R)) := HP.out.mv (below_drew1 wz)
        have HGd : Hid (wz.drew.heap[g]? = some (.cells cur 23 (0, 0))) := HG.out
        refine wpAnyH_take (i := 0) (v := ?_) (oi := { dst := some 48, op := _, type := _, pos := _, after := _, guard := none }) rfl (by kernel_rfl) (by kernel_rfl) (by kernel_rfl) (fun _ _ _ h => h) (Or.inl ⟨by kernel_rfl, ?_⟩) (by assumption) ?_
        case refine_2 => (intro w9 hSw; clear hSw; (go_simp); (try omega); try with_reducible rfl)
        simp only [Act.put, List.setIfInBounds_toArray, List.set_cons_zero, List.set_cons_succ]
        refine wpAnyH_take (i := 1) (v := ?_) (oi := { dst := some 49, op := _, type := _, pos := _, after := _, guard := none }) rfl (by kernel_rfl) (by kernel_rfl) (by kernel_rfl) (fun _ _ _ h => h) (Or.inl ⟨by kernel_rfl, ?_⟩) (by assumption) ?_
        case refine_2 => (intro w9 hSw; obtain ⟨hpb9, z5⟩ := hSw; obtain ⟨z0, z1, z2, z3⟩ := PB.c hpb9; clear hpb9; (go_simp); (try omega); try with_reducible rfl)
        simp only [Act.put, List.setIfInBounds_toArray, List.set_cons_zero, List.set_cons_succ]
        refine wpAnyH_take (i := 2) (v := ?_) (oi := { dst := some 50, op := _, type := _, pos := _, after := _, guard := none }) rfl (by kernel_rfl) (by kernel_rfl) (by kernel_rfl) (fun _ _ _ h => h) (Or.inl ⟨by kernel_rfl, ?_⟩) (by assumption) ?_
        case refine_2 => (intro w9 hSw; clear hSw; (go_simp); (try omega); try with_reducible rfl)
        simp only [Act.put, List.setIfInBounds_toArray, List.set_cons_zero, List.set_cons_succ]
        refine wpAnyH_take (i := 3) (v := ?_) (oi := { dst := some 51, op := _, type := _, pos := _, after := _, guard := none }) rfl (by kernel_rfl) (by kernel_rfl) (by kernel_rfl) (fun _ _ _ h => h) (Or.inl ⟨by kernel_rfl, ?_⟩) (by assumption) ?_
        case refine_2 => (intro w9 hSw; clear hSw; (go_simp); (try omega); try with_reducible rfl)
        simp only [Act.put, List.setIfInBounds_toArray, List.set_cons_zero, List.set_cons_succ]
        refine wpAnyH_take (i := 4) (v := ?_) (oi := { dst := some 52, op := _, type := _, pos := _, after := _, guard := none }) rfl (by kernel_rfl) (by kernel_rfl) (by kernel_rfl) (fun _ _ _ h => h) (Or.inl ⟨by kernel_rfl, ?_⟩) (by assumption) ?_
        case refine_2 => (intro w9 hSw; clear hSw; (go_simp); (try omega); try with_reducible rfl)
        simp only [Act.put, List.setIfInBounds_toArray, List.set_cons_zero, List.set_cons_succ]
        refine wpAnyH_take (i := 5) (v := ?_) (oi := { dst := some 53, op := _, type := _, pos := _, after := _, guard := none }) rfl (by kernel_rfl) (by kernel_rfl) (by kernel_rfl) (fun _ _ _ h => h) (Or.inl ⟨by kernel_rfl, ?_⟩) (by assumption) ?_
        case refine_2 => (intro w9 hSw; obtain ⟨hpb9, z5⟩ := hSw; obtain ⟨z0, z1, z2, z3⟩ := PB.c hpb9; clear hpb9; (go_simp); (try omega); try with_reducible rfl)
        simp only [Act.put, List.setIfInBounds_toArray, List.set_cons_zero, List.set_cons_succ]
        refine wpAnyH_take (i := 6) (v := ?_) (oi := { dst := some 54, op := _, type := _, pos := _, after := _, guard := none }) rfl (by kernel_rfl) (by kernel_rfl) (by kernel_rfl) (fun _ _ _ h => h) (Or.inl ⟨by kernel_rfl, ?_⟩) (by assumption) ?_
        case refine_2 => (intro w9 hSw; clear hSw; (go_simp); (try omega); try with_reducible rfl)
        simp only [Act.put, List.setIfInBounds_toArray, List.set_cons_zero, List.set_cons_succ]
        refine wpAnyH_take (i := 7) (v := .pointer (some ⟨g, j * 4, none⟩)) (oi := { dst := some 55, op := _, type := _, pos := _, after := _, guard := none }) rfl (by kernel_rfl) (by kernel_rfl) (by kernel_rfl) (fun _ _ _ h => h) (Or.inl ⟨by kernel_rfl, ?_⟩) (by assumption) ?_
        case refine_1 => (intro w9 hSw; clear hSw; (go_simp); (try omega); try with_reducible rfl)
        simp only [Act.put, List.setIfInBounds_toArray, List.set_cons_zero, List.set_cons_succ]
        refine wpAnyH_take (i := 8) (v := ?_) (oi := { dst := some 56, op := _, type := _, pos := _, after := _, guard := none }) rfl (by kernel_rfl) (by kernel_rfl) (by kernel_rfl) (fun _ _ _ h => h) (Or.inl ⟨by kernel_rfl, ?_⟩) (by assumption) ?_
        case refine_2 => (intro w9 hSw; clear hSw; (go_simp); (try omega); try with_reducible rfl)
        simp only [Act.put, List.setIfInBounds_toArray, List.set_cons_zero, List.set_cons_succ]
        refine wpAnyH_ready (rs := [9]) (by kernel_rfl) (by simp) (AllReadyH.cons (o := { dst := some 57, op := _, type := _, pos := _, after := _, guard := none }) rfl (fun K hK => ?_) AllReadyH.nil)
        go_simp
        refine (m.hN _ _ g (j * 4) cur 23 x.at_ HPd.out.st KN HGd.out hgbb hgpb (by decide) hgl HC0).mono ?_
        rintro e y1 ⟨⟨r1, rfl⟩, hst, hblk, hk2⟩
        have HP1 : Hid (PT m W q tb y1 (m.num σj x.at_).1 TT (.slice (some ⟨g, 0, none⟩) n cap) (D ++ ⟨(m.num σj x.at_).2, x.off, x.dst, x.ab⟩ :: R)) := ⟨hst, hk2.blk HPd.out.tbk hb1 (Ne.symm hgtb) (by decide), hk2.blk HPd.out.box hq1 (Ne.symm hgq) (by decide), by
          have hh := own_set (i := 0) (y := ⟨(m.num σj x.at_).2, x.off, x.dst, x.ab⟩) (by decide) hn hgl hcap hmax hcz htk rfl (by rw [Nat.add_zero, hjn]; exact hblk)
          have hn' : (D ++ (⟨(m.num σj x.at_).2, x.off, x.dst, x.ab⟩ : TrR) :: R).length = n := by rw [← hn]; simp
          rw [hn']; exact hh, HPd.out.kt.trans (KT3.of_row hk2 HGd.out)⟩
        have hg1 : y1.heap[g]? = some (.cells (cur.setIfInBounds (j * 4) (.int .i64 (m.num σj x.at_).2)) 23 (0, 0)) := hblk
        refine hK.out _ _ (HP1.out.s5 hT5) (fun hHeld => ?_)
        clear hK K hHeld hst hblk hk2 HP HPd HGd
        refine wpAnyH_done (by kernel_rfl) ?_ _
        go_wp2_with fail
        refine wp_region_held_drew (S := S5 q m.agg tb (.slice (some ⟨g, 0, none⟩) n cap)) (by kernel_rfl) ((HP1.out.mv (below_drew1 _)).s5 hT5) (fun hHeld => ?_)
        have HP2d : Hid (PT m W q tb y1.drew _ TT (.slice (some ⟨g, 0, none⟩) n cap) (D ++ ⟨(m.num σj x.at_).2, x.off, x.dst, x.ab⟩ :: R)) := HP1.out.mv (below_drew1 y1)
        obtain ⟨cur2, hcur2⟩ : ∃ cur2, cur.setIfInBounds (j * 4) (.int .i64 (m.num σj x.at_).2) = cur2 := ⟨_, rfl⟩
        rw [hcur2] at hg1
        have HG2d : Hid (y1.drew.heap[g]? = some (.cells cur2 23 (0, 0))) := hg1
        have hn2 : (D ++ (⟨(m.num σj x.at_).2, x.off, x.dst, x.ab⟩ : TrR) :: R).length = n := by rw [← hn]; simp
        have hcz2 : cur2.size = cap * 4 := by rw [← hcur2]; simpa using hcz
        have htk2 : cur2.toList.take (n * 4) = trCs (D ++ (⟨(m.num σj x.at_).2, x.off, x.dst, x.ab⟩ : TrR) :: R) := by
          have lt : D.length * 4 + 0 < n * 4 := by rw [← hn]; simp <;> omega
          rw [← hcur2, Array.toList_setIfInBounds, ← hjn, show D.length * 4 = D.length * 4 + 0 from rfl, take_set lt, htk, trCs_set D R x 0 (by decide), show (trC x).set 0 (.int .i64 (m.num σj x.at_).2) = trC ⟨(m.num σj x.at_).2, x.off, x.dst, x.ab⟩ from rfl, trCs_back]
        have HC1 := row_get htk2 hn2 1 (by decide) rfl
        have HC2 := row_get htk2 hn2 2 (by decide) rfl
        have HC3 := row_get htk2 hn2 3 (by decide) rfl
        rw [hjn] at HC1 HC2 HC3
        clear HP1 hg1 hcur2
        refine wpAnyH_take (i := 0) (v := ?_) (oi := { dst := some 58, op := _, type := _, pos := _, after := _, guard := none }) rfl (by kernel_rfl) (by kernel_rfl) (by kernel_rfl) (fun _ _ _ h => h) (Or.inl ⟨by kernel_rfl, ?_⟩) (by assumption) ?_
        case refine_2 => (intro w9 hSw; obtain ⟨hpb9, z5⟩ := hSw; obtain ⟨z0, z1, z2, z3⟩ := PB.c hpb9; clear hpb9; (go_simp); (try omega); try with_reducible rfl)
        simp only [Act.put, List.setIfInBounds_toArray, List.set_cons_zero, List.set_cons_succ]
        refine wpAnyH_take (i := 1) (v := ?_) (oi := { dst := some 59, op := _, type := _, pos := _, after := _, guard := none }) rfl (by kernel_rfl) (by kernel_rfl) (by kernel_rfl) (fun _ _ _ h => h) (Or.inl ⟨by kernel_rfl, ?_⟩) (by assumption) ?_
        case refine_2 => (intro w9 hSw; clear hSw; (go_simp); (try omega); try with_reducible rfl)
        simp only [Act.put, List.setIfInBounds_toArray, List.set_cons_zero, List.set_cons_succ]
        refine wpAnyH_take (i := 2) (v := ?_) (oi := { dst := some 60, op := _, type := _, pos := _, after := _, guard := none }) rfl (by kernel_rfl) (by kernel_rfl) (by kernel_rfl) (fun _ _ _ h => h) (Or.inl ⟨by kernel_rfl, ?_⟩) (by assumption) ?_
        case refine_2 => (intro w9 hSw; clear hSw; (go_simp); (try omega); try with_reducible rfl)
        simp only [Act.put, List.setIfInBounds_toArray, List.set_cons_zero, List.set_cons_succ]
        refine wpAnyH_take (i := 3) (v := ?_) (oi := { dst := some 61, op := _, type := _, pos := _, after := _, guard := none }) rfl (by kernel_rfl) (by kernel_rfl) (by kernel_rfl) (fun _ _ _ h => h) (Or.inl ⟨by kernel_rfl, ?_⟩) (by assumption) ?_
        case refine_2 => (intro w9 hSw; clear hSw; (go_simp); (try omega); try with_reducible rfl)
        simp only [Act.put, List.setIfInBounds_toArray, List.set_cons_zero, List.set_cons_succ]
        refine wpAnyH_take (i := 4) (v := ?_) (oi := { dst := some 62, op := _, type := _, pos := _, after := _, guard := none }) rfl (by kernel_rfl) (by kernel_rfl) (by kernel_rfl) (fun _ _ _ h => h) (Or.inl ⟨by kernel_rfl, ?_⟩) (by assumption) ?_
        case refine_2 => (intro w9 hSw; obtain ⟨hpb9, z5⟩ := hSw; obtain ⟨z0, z1, z2, z3⟩ := PB.c hpb9; clear hpb9; (go_simp); (try omega); try with_reducible rfl)
        simp only [Act.put, List.setIfInBounds_toArray, List.set_cons_zero, List.set_cons_succ]
        refine wpAnyH_take (i := 5) (v := ?_) (oi := { dst := some 63, op := _, type := _, pos := _, after := _, guard := none }) rfl (by kernel_rfl) (by kernel_rfl) (by kernel_rfl) (fun _ _ _ h => h) (Or.inl ⟨by kernel_rfl, ?_⟩) (by assumption) ?_
        case refine_2 => (intro w9 hSw; clear hSw; (go_simp); (try omega); try with_reducible rfl)
        simp only [Act.put, List.setIfInBounds_toArray, List.set_cons_zero, List.set_cons_succ]
        refine wpAnyH_take (i := 6) (v := .pointer (some ⟨g, j * 4, none⟩)) (oi := { dst := some 64, op := _, type := _, pos := _, after := _, guard := none }) rfl (by kernel_rfl) (by kernel_rfl) (by kernel_rfl) (fun _ _ _ h => h) (Or.inl ⟨by kernel_rfl, ?_⟩) (by assumption) ?_
        case refine_1 => (intro w9 hSw; clear hSw; (go_simp); (try omega); try with_reducible rfl)
        simp only [Act.put, List.setIfInBounds_toArray, List.set_cons_zero, List.set_cons_succ]
        refine wpAnyH_ready (rs := [7]) (by kernel_rfl) (by simp) (AllReadyH.cons (o := { dst := some 65, op := _, type := _, pos := _, after := _, guard := none }) rfl (fun K hK => ?_) AllReadyH.nil)
        go_simp
        refine (stand_any m _ _ g (j * 4) cur2 23 x.off x.dst x.ab HP2d.out.st HG2d.out hgbb hgpb (by decide) hgl HC1 HC2 HC3 KT9).mono ?_
        rintro e y3 ⟨⟨r3, rfl⟩, hst, hblk, hk2⟩
        have HP3 : Hid (PT m W q tb y3 (trF m σj x).1 TT (.slice (some ⟨g, 0, none⟩) n cap) (D ++ (trF m σj x).2 :: R)) := ⟨hst, hk2.blk HP2d.out.tbk hb1 (Ne.symm hgtb) (by decide), hk2.blk HP2d.out.box hq1 (Ne.symm hgq) (by decide), by
          have hh := own_set3 (x := ⟨(m.num σj x.at_).2, x.off, x.dst, x.ab⟩) hn2 hgl hcap hmax hcz2 htk2 (by rw [hjn]; exact hblk)
          have hn' : (D ++ (trF m σj x).2 :: R).length = n := by rw [← hn]; simp
          rw [hn']; exact hh, HP2d.out.kt.trans (KT3.of_row hk2 HG2d.out)⟩
        refine hK.out _ _ (HP3.out.s5 hT5) (fun hHeld => ?_)
        clear hK K hHeld hst hblk hk2 HP2d HG2d
        refine wpAnyH_done (by kernel_rfl) ?_ _
        go_wp2_with fail
        exact ⟨⟨j + 1, _, D ++ [(trF m σj x).2], R, .slice (some ⟨g, 0, none⟩) n cap, rfl, by omega, by simp [hjn], by simp at hnn ⊢; omega, by have h := HP3.out; rw [show D ++ (trF m σj x).2 :: R = (D ++ [(trF m σj x).2]) ++ R by simp] at h; exact h, HLn, HDn⟩, by simp [intOf]; omega⟩
    · have hjm : ¬ ((j : Int) < min cnt 4096) := by omega
      have e0 : j = NK := by omega
      subst e0
      have hEq : (σj, R) = (σ4, E.drop j) := by have h := HLj.out; rw [Nat.sub_self] at h; exact h
      obtain ⟨hs4, hR4⟩ := Prod.mk.injEq _ _ _ _ ▸ hEq
      subst hs4
      have hDE : D ++ R = E := by rw [HDj.out, hR4, List.take_append_drop]
      rw [hDE] at HP
      have Q0 : Hid (PS m wr q tb 46 wr σj (TT.setIfInBounds 5 vj)) := ⟨HP.out.st, HP.out.tbk, HP.out.box, KT2.refl _ _ _⟩
      have HOE : Hid (wr.ownsRow m.lw 23 4 vj E.length (trCs E)) := HP.out.own
      have HKE : Hid (KT3 bb tb W wr) := HP.out.kt
      have HTY := m.ty _ _ HP.out.st
      have htt2 : ∀ cs fz, wr.heap[tb]? ≠ some (.cells cs 23 fz) := fun _ _ e => by rw [HP.out.tbk] at e; cases e
      clear HP HLj HDj hEq hR4 hDE
      go_wp2_with fail
      refine wp_region_held_drew (S := PB q m.agg) (by kernel_rfl) (Q0.out.mv (below_drew1 _)).box (fun hHeld => ?_)
      have Q0d : Hid (PS m wr q tb 46 wr.drew _ _) := Q0.out.mv (below_drew1 wr)
      refine wpAnyH_take (i := 0) (v := ?_) (oi := { dst := some 70, op := _, type := _, pos := _, after := _, guard := none }) rfl (by kernel_rfl) (by kernel_rfl) (by kernel_rfl) (fun _ _ _ h => h) (Or.inl ⟨by kernel_rfl, ?_⟩) (by assumption) ?_
      case refine_2 => (intro w9 hSw; clear hSw; go_simp; try with_reducible rfl)
      simp only [Act.put, List.setIfInBounds_toArray, List.set_cons_zero, List.set_cons_succ]
      refine wpAnyH_take (i := 1) (v := ?_) (oi := { dst := some 71, op := _, type := _, pos := _, after := _, guard := none }) rfl (by kernel_rfl) (by kernel_rfl) (by kernel_rfl) (fun _ _ _ h => h) (Or.inl ⟨by kernel_rfl, ?_⟩) (by assumption) ?_
      case refine_2 => (intro w9 hSw; obtain ⟨z0, z1, z2, z3⟩ := PB.c hSw; go_simp; try with_reducible rfl)
      simp only [Act.put, List.setIfInBounds_toArray, List.set_cons_zero, List.set_cons_succ]
      refine wpAnyH_take (i := 2) (v := ?_) (oi := { dst := some 72, op := _, type := _, pos := _, after := _, guard := none }) rfl (by kernel_rfl) (by kernel_rfl) (by kernel_rfl) (fun _ _ _ h => h) (Or.inl ⟨by kernel_rfl, ?_⟩) (by assumption) ?_
      case refine_2 => (intro w9 hSw; clear hSw; go_simp; try with_reducible rfl)
      simp only [Act.put, List.setIfInBounds_toArray, List.set_cons_zero, List.set_cons_succ]
      refine wpAnyH_take (i := 3) (v := ?_) (oi := { dst := some 73, op := _, type := _, pos := _, after := _, guard := none }) rfl (by kernel_rfl) (by kernel_rfl) (by kernel_rfl) (fun _ _ _ h => h) (Or.inl ⟨by kernel_rfl, ?_⟩) (by assumption) ?_
      case refine_2 => (intro w9 hSw; clear hSw; go_simp; try with_reducible rfl)
      simp only [Act.put, List.setIfInBounds_toArray, List.set_cons_zero, List.set_cons_succ]
      refine wpAnyH_take (i := 4) (v := ?_) (oi := { dst := some 74, op := _, type := _, pos := _, after := _, guard := none }) rfl (by kernel_rfl) (by kernel_rfl) (by kernel_rfl) (fun _ _ _ h => h) (Or.inl ⟨by kernel_rfl, ?_⟩) (by assumption) ?_
      case refine_2 => (intro w9 hSw; clear hSw; go_simp; try with_reducible rfl)
      simp only [Act.put, List.setIfInBounds_toArray, List.set_cons_zero, List.set_cons_succ]
      refine wpAnyH_ready (rs := [5]) (by kernel_rfl) (by simp) (AllReadyH.cons (o := { dst := some 75, op := _, type := _, pos := _, after := _, guard := none }) rfl (fun K hK => ?_) AllReadyH.nil)
      go_simp
      refine (m.hF _ _ tb 6 _ 46 has Q0d.out.st K5 Q0d.out.blk hb1 hb2 (by decide) hlw (by simp [hT6])).mono ?_
      rintro e v5 ⟨⟨r5, rfl⟩, hst, hblk, hk2⟩
      have P5 : Hid (PS m wr q tb 46 v5 _ _) := ⟨hst, hblk, hk2.blk Q0d.out.box hq1 hq2 (by decide), Q0d.out.kt.trans hk2⟩
      refine hK.out _ _ P5.out.box (fun hHeld => ?_)
      clear hK K hHeld hst hblk hk2 Q0 Q0d
      refine wpAnyH_done (by kernel_rfl) ?_ _
      have c6 := cell_of P5.out.blk (i := 6) (v := .bool false) (by rw [hF]; simp [hT6l])
      go_wp2_with fail
      exact bodyPost_ret (v := .tuple #[]) (by simp [results, Tryd.results12, go_sem]) rfl ⟨⟨_, rfl⟩, P5.out.st, vj, by have h := P5.out.blk; rw [hF, ← HTT.out] at h; exact h, own_kt HOE.out P5.out.kt HTY htt2, HKE.out.trans (KT3.of_kt2 P5.out.kt)⟩

end Go.Proofs.YtcgcljfdfimfgaaDoor
