/- Contract: blob.Put of a table that can be, over what pass does. -/
import Derived.Test.YtdonjdihffpghaaDoorBlI
import Derived.Deep.Cut
import Derived.Lib.SlBytesConst
namespace Go.Proofs.YtdonjdihffpghaaDoor
open Go.RowKit Sr
set_option linter.unusedVariables false

theorem own_keep9 {w w1 : World} {base : Nat} {e : TypeId} {size : Nat} {v : Value} {n : Nat} {xs : List Value} (h : w.ownsRow base e size v n xs) (hk : Below w.heap.size w w1) : w1.ownsRow base e size v n xs := by
  obtain ⟨h1, h2⟩ := h
  refine ⟨h1, ?_⟩
  rcases h2 with h2 | ⟨g, cap, cur, a, b, c, d⟩
  · exact .inl h2
  · exact .inr ⟨g, cap, cur, a, b, (hk.block g (Array.getElem?_eq_some_iff.1 c).1).trans c, d⟩
theorem cellsB_one (L : List UInt8) : ∀ u ∈ cellsB L, u.oneCell' = true := by
  intro u hu
  simp only [cellsB, List.mem_map] at hu
  obtain ⟨x, _, rfl⟩ := hu
  rfl
theorem cells_rd {W : World} {b : Nat} {L : List UInt8} (h : Bx W b (cellsB L)) : ∀ j u, (cellsB L)[j]? = some u → W.cell? ((⟨b, 0, none⟩ : Addr).add j) = some u := fun j u hu => by
  have := h.c j hu; cases j <;> simpa [Addr.add] using this
def tz40 : List UInt8 := [84, 90, 52, 48]
/-- what pass does with a table, as Put calls it. -/
def PassW (T : List Value) (w : World) (B : List UInt8) : Prop := ∀ (bb pb : Nat) (W : World), Hid ((wPM w bb w.heap.size pb).St W tz40) → W.heap[w.heap.size]? = some (.cells T.toArray 52 (0, 0)) → w.heap.size ≠ bb → w.heap.size ≠ pb →
  Calls Tryd.prog 18 #[.pointer (some ⟨w.heap.size, 0, none⟩), .agg (wPM w bb w.heap.size pb).agg] W fun e W' => (∃ v, e = .returned v) ∧ (wPM w bb w.heap.size pb).St W' B
theorem rd_of_cells {W : World} {ad : Addr} {L : List UInt8} (h : ∀ j u, (cellsB L)[j]? = some u → W.cell? (ad.add j) = some u) : RdB W (some ad) L := fun j x hj => ⟨ad, rfl, h j _ (cellsB_get hj)⟩
/-- what stands while the sum is written. -/
def RS5 (bb : Nat) (v : Value) (W : World) : Prop := Boxed W bb 22 v
theorem RS5.kept {bb : Nat} {v : Value} {W W' : World} {row : Option Nat} (h : RS5 bb v W) (hg : W.grownBy W' row) (hn : some bb ≠ row) : RS5 bb v W' := Boxed.kept h hg hn
theorem RS5.below {bb : Nat} {v : Value} {W W' : World} (h : RS5 bb v W) (k : Below W.heap.size W W') : RS5 bb v W' := blk_below k h

set_option maxRecDepth 100000 in
set_option maxHeartbeats 4000000 in
theorem put_yes (T : List Value) (hT : T.length = 25) (nm : ByteArray) (h0 : T[0]? = some (.string nm)) (w : World) (B : List UInt8) (hB : B.length ≤ 900000)
    (HR : Hid (∀ w : World, Calls Tryd.prog 15 #[.agg T.toArray] w fun e w' => e = .returned (.bool true) ∧ Below w.heap.size w w'))
    (HN : Hid (∀ w : World, Calls Tryd.prog 16 #[.string nm] w fun e w' => e = .returned (.bool true) ∧ Below w.heap.size w w'))
    (HA : Hid (∀ w : World, Calls Tryd.prog 17 #[.agg T.toArray] w fun e w' => e = .returned (.bool true) ∧ Below w.heap.size w w'))
    (HP : Hid (PassW T w B)) :
    Calls Tryd.prog 10 #[.agg T.toArray] w fun e w' => ∃ v, e = .returned (.tuple #[v, .int .i64 0]) ∧ w'.ownsRow w.heap.size 5 1 v (B.length + 4) (cellsB (B ++ beB 4 (smB B))) ∧ Below w.heap.size w w' := by
  obtain ⟨i0, hi, hz0, hz1, hz2⟩ := info_parts infoU8
  have Y1 : Hid ((w.alloc (.cells T.toArray 52)).heap[w.heap.size]? = some (.cells T.toArray 52 (0, 0))) := World.alloc_heap_new w _
  have X1 : Hid (Bx (w.alloc (.cells T.toArray 52)) w.heap.size T) := Bx.new w T 52
  have B1 : Hid (Below w.heap.size w (w.alloc (.cells T.toArray 52))) := (Below.refl _ _).alloc (Nat.le_refl _) _
  go_enter Tryd.func10, Tryd.ntmps10
  generalize hUA : T.toArray = UA at *
  go_upto_region 1 with fail
  refine gen_code (fun V => V.heap[w.heap.size]? = some (.cells UA 52 (0, 0)) ∧ Bx V w.heap.size T ∧ Below w.heap.size w V) ⟨Y1.out, X1.out, B1.out⟩ ?_
  clear X1 B1 Y1
  rintro V ⟨HY, HX, HB⟩
  have HY : Hid (V.heap[w.heap.size]? = some (.cells UA 52 (0, 0))) := HY
  have HX : Hid (Bx V w.heap.size T) := HX
  have HB : Hid (Below w.heap.size w V) := HB
  have c0 := HX.out.c 0 h0
  go_wp2_with (first | (refine wpList_load_mid rfl 52 _ rfl w.heap.size 0 rfl T _ HX.out.all Tryd.underlying52 rfl (by rw [hT]; kernel_rfl) ?_) | fail)
  refine (HR.out _).mono ?_
  rintro e v1 ⟨rfl, hb⟩
  have HY1 : Hid (v1.heap[w.heap.size]? = some (.cells UA 52 (0, 0))) := blk_below hb HY.out
  clear HY
  have HX1 : Hid (Bx v1 w.heap.size T) := HX.out.below hb
  have HB1 : Hid (Below w.heap.size w v1) := HB.out.trans (hb.mono HB.out.size)
  clear HX HB hb c0
  have HX : Hid (Bx v1 w.heap.size T) := HX1
  have HB : Hid (Below w.heap.size w v1) := HB1
  clear HX1 HB1
  have c0 := HX.out.c 0 h0
  go_wp2_with (first | (refine wpList_load_mid rfl 52 _ rfl w.heap.size 0 rfl T _ HX.out.all Tryd.underlying52 rfl (by rw [hT]; kernel_rfl) ?_) | fail)
  refine (HN.out _).mono ?_
  rintro e v2 ⟨rfl, hb⟩
  have HX2 : Hid (Bx v2 w.heap.size T) := HX.out.below hb
  have HB2 : Hid (Below w.heap.size w v2) := HB.out.trans (hb.mono HB.out.size)
  have HY2 : Hid (v2.heap[w.heap.size]? = some (.cells UA 52 (0, 0))) := blk_below hb HY1.out
  clear HX HB hb c0 HY1
  have HX : Hid (Bx v2 w.heap.size T) := HX2
  have HB : Hid (Below w.heap.size w v2) := HB2
  clear HX2 HB2
  have c0 := HX.out.c 0 h0
  go_wp2_with (first | (refine wpList_step fun K hK => ?_; rw [show Region.wanted _ _ = true from by kernel_rfl, if_pos rfl]; refine wp_load_mid 52 _ rfl w.heap.size 0 rfl T _ HX.out.all Tryd.underlying52 rfl (by rw [hT]; kernel_rfl) (hK _ _ ?_)) | fail)
  refine (HA.out _).mono ?_
  rintro e v3 ⟨rfl, hb⟩
  have HX3 : Hid (Bx v3 w.heap.size T) := HX.out.below hb
  have HB3 : Hid (Below w.heap.size w v3) := HB.out.trans (hb.mono HB.out.size)
  have HY3 : Hid (v3.heap[w.heap.size]? = some (.cells UA 52 (0, 0))) := blk_below hb HY2.out
  clear HX HB hb c0 HY2
  have HX : Hid (Bx v3 w.heap.size T) := HX3
  have HB : Hid (Below w.heap.size w v3) := HB3
  clear HX3 HB3
  have c0 := HX.out.c 0 h0
  clear HR HN HA c0
  have hcv : (convert 22 22 (.slice (some ⟨v3.heap.size, 0, none⟩) 4 4)).run Tryd.prog (v3.alloc (.cells #[.int .u8 84, .int .u8 90, .int .u8 52, .int .u8 48] 5)) = .ok (.slice (some ⟨v3.heap.size, 0, none⟩) 4 4) (v3.alloc (.cells #[.int .u8 84, .int .u8 90, .int .u8 52, .int .u8 48] 5 (4, 5))) := Lib.run_convert_bytes_const v3 22 5 #[.int .u8 84, .int .u8 90, .int .u8 52, .int .u8 48] 4 4 Tryd.underlying22 Tryd.underlying5
  obtain ⟨bb, hbb⟩ : ∃ bb, v3.heap.size + 1 = bb := ⟨_, rfl⟩
  go_upto_region 4 with fail
  obtain ⟨W4, hW4⟩ : ∃ W4, (v3.alloc (.cells #[.int .u8 84, .int .u8 90, .int .u8 52, .int .u8 48] 5 (4, 5))).alloc (.cells #[.slice (some ⟨v3.heap.size, 0, none⟩) 4 4] 22) = W4 := ⟨_, rfl⟩
  have hb4 : Below v3.heap.size v3 W4 := by rw [← hW4]; exact ((Below.refl _ v3).alloc (Nat.le_refl _) _).alloc (by simp) _
  have HW4 : Hid (WS w bb w.heap.size W4 tz40) := by
    have hz := HB.out.size
    have hz4 := hb4.size
    refine ⟨HB.out.trans (hb4.mono HB.out.size), by omega, Nat.le_refl _, by omega, by omega, .slice (some ⟨v3.heap.size, 0, none⟩) 4 4, ?_, .inr ⟨v3.heap.size, #[.int .u8 84, .int .u8 90, .int .u8 52, .int .u8 48], (4, 5), rfl, hz, ?_, rfl⟩⟩
    · rw [← hW4, ← hbb]
      have := World.alloc_heap_new (v3.alloc (.cells #[.int .u8 84, .int .u8 90, .int .u8 52, .int .u8 48] 5 (4, 5))) (.cells #[.slice (some ⟨v3.heap.size, 0, none⟩) 4 4] 22)
      rwa [World.size_alloc] at this
    · rw [← hW4]; exact (Below.heap_alloc _ _ _ (by simp)).trans (World.alloc_heap_new v3 _)
  have HY4 : Hid (W4.heap[w.heap.size]? = some (.cells UA 52 (0, 0))) := blk_below hb4 HY3.out
  have hbw : w.heap.size ≠ bb := by have := (Array.getElem?_eq_some_iff.1 HY3.out).1; omega
  clear hb4 hcv hbb
  try rw [hW4]
  clear HY3 HX HB hW4
  go_wp2_with fail
  refine (writer_any bb W4).mono ?_
  rintro e v5 ⟨rfl, hb5, hp5⟩
  have hlt4 : bb < W4.heap.size := by obtain ⟨u, hu, _⟩ := HW4.out.own; exact hu.lt
  have hpw : w.heap.size ≠ W4.heap.size := by have := (Array.getElem?_eq_some_iff.1 HY4.out).1; omega
  have HS5 : Hid ((wPM w bb w.heap.size W4.heap.size).St v5 tz40) := ⟨HW4.out.mv hb5, by decide, ct_of hp5 (by omega) (by decide) rfl⟩
  have HY5 : v5.heap[w.heap.size]? = some (.cells T.toArray 52 (0, 0)) := by rw [hUA]; exact blk_below hb5 HY4.out
  clear HW4 HY4 hb5 hp5
  go_wp2_with fail
  refine (HP.out bb W4.heap.size v5 HS5 HY5 hbw hpw).mono ?_
  rintro e v6 ⟨⟨r6, rfl⟩, hs6⟩
  have HS6 : Hid ((wPM w bb w.heap.size W4.heap.size).St v6 B) := hs6
  clear hs6 HS5 HY5 HP
  have hB0 : 0 < B.length := HS6.out.2.1
  obtain ⟨v, hv, hq⟩ := HS6.out.1.own
  obtain ⟨gq, cq, rfl, hrd⟩ := hq.rd hB0
  have HV6 : Hid (RS5 bb (.slice (some ⟨gq, 0, none⟩) B.length cq) v6) := hv
  have HQ6 : Hid (RowQ v6 w.heap.size (.slice (some ⟨gq, 0, none⟩) B.length cq) B) := hq
  have HD6 : Hid (∀ j u, (cellsB B)[j]? = some u → v6.cell? ((⟨gq, 0, none⟩ : Addr).add j) = some u) := hrd
  have HNB : Hid (some bb ≠ (Value.slice (some ⟨gq, 0, none⟩) B.length cq).ownBlock) := by
    intro e
    obtain ⟨cs, fz, h9⟩ := hq.blk5 bb e.symm
    rw [show v6.heap[bb]? = _ from hv] at h9
    simp at h9
  clear hv hq hrd
  go_wp2_with fail
  refine wp_region_held_drew (S := RS5 bb (.slice (some ⟨gq, 0, none⟩) B.length cq)) (by kernel_rfl) (RS5.below HV6.out (below_drew1 _)) (fun hHeld => ?_)
  have HQ : Hid (RowQ v6.drew w.heap.size (.slice (some ⟨gq, 0, none⟩) B.length cq) B) := HQ6.out.mv (fun g o _ hg => blk_below (below_drew1 _) hg)
  have HB : Hid (Below w.heap.size w v6.drew) := HS6.out.1.below.trans ((below_drew1 v6).mono HS6.out.1.below.size)
  have HD : Hid (∀ j u, (cellsB B)[j]? = some u → v6.drew.cell? ((⟨gq, 0, none⟩ : Addr).add j) = some u) := HD6.out
  clear HS6 HV6 HQ6 HD6
  refine wpAnyH_take (i := 0) (v := ?_) (oi := { dst := some 24, op := _, type := _, pos := _, after := _, guard := none }) rfl (by kernel_rfl) (by kernel_rfl) (by kernel_rfl) (fun _ _ _ h => h) (Or.inl ⟨by kernel_rfl, ?_⟩) (by assumption) ?_
  case refine_2 => (intro w9 hSw; have q0 := Boxed.cell hSw; go_simp; try with_reducible rfl)
  simp only [Act.put, List.setIfInBounds_toArray, List.set_cons_zero, List.set_cons_succ]
  refine wpAnyH_take (i := 1) (v := ?_) (oi := { dst := some 25, op := _, type := _, pos := _, after := _, guard := none }) rfl (by kernel_rfl) (by kernel_rfl) (by kernel_rfl) (fun _ _ _ h => h) (Or.inl ⟨by kernel_rfl, ?_⟩) (by assumption) ?_
  case refine_2 => (intro w9 hSw; have q0 := Boxed.cell hSw; go_simp; try with_reducible rfl)
  simp only [Act.put, List.setIfInBounds_toArray, List.set_cons_zero, List.set_cons_succ]
  refine wpAnyH_ready (rs := [2]) (by kernel_rfl) (by simp) (AllReadyH.cons (o := { dst := some 26, op := _, type := _, pos := _, after := _, guard := none }) rfl (fun K hK => ?_) AllReadyH.nil)
  go_simp
  refine (sumOf_any (some ⟨gq, 0, none⟩) B B.length cq rfl (by unfold maxLen; omega) _ (rd_of_cells HD.out)).mono ?_
  rintro e y1 ⟨rfl, hb1, hx1⟩
  have HQ1 : Hid (RowQ y1 w.heap.size (.slice (some ⟨gq, 0, none⟩) B.length cq) B) := HQ.out.mv (fun g o _ hg => blk_below hb1 hg)
  have HBq1 : Hid (Below w.heap.size w y1) := HB.out.trans (hb1.mono HB.out.size)
  have HZ1 : w.heap.size ≤ y1.heap.size := HBq1.out.size
  refine hK.out _ _ (hHeld.below hb1) (fun hHeld => ?_)
  clear hK K HQ HB HD hb1
  refine wpAnyH_ready (rs := [3]) (by kernel_rfl) (by simp) (AllReadyH.cons (o := { dst := some 27, op := _, type := _, pos := _, after := _, guard := none }) rfl (fun K hK => ?_) AllReadyH.nil)
  refine (if_pos (by kernel_rfl)).mpr (wp_append_Q _ _ rfl HQ1.out hB0 HZ1 rfl ⟨_, 0, none⟩ 4 4 rfl (beB_len 4 (smB B)) (.inl (by decide)) (by omega) (cells_rd hx1) ?_)
  intro v' w3 hown' hgrow3
  have HOF : Hid (w3.ownsRow w.heap.size 5 1 v' (B.length + 4) (cellsB (B ++ beB 4 (smB B)))) := by rw [cellsB_app]; exact hown'
  have HBF : Hid (Below w.heap.size w w3) := Below.grown HBq1.out hgrow3 HBq1.out.size (fun k hk => HQ1.out.lt _ hk)
  refine hK.out _ _ (hHeld.kept hgrow3 HNB.out) (fun hHeld => ?_)
  clear hK K hown' hgrow3
  refine wpAnyH_take (i := 4) (v := ?_) (oi := { dst := some 2, op := _, type := _, pos := _, after := _, guard := none }) rfl (by kernel_rfl) (by kernel_rfl) (by kernel_rfl) (fun _ _ _ h => h) (Or.inl ⟨by kernel_rfl, ?_⟩) (by assumption) ?_
  case refine_2 => (intro w9 hSw; clear hSw; go_simp; try with_reducible rfl)
  simp only [Act.put, List.setIfInBounds_toArray, List.set_cons_zero, List.set_cons_succ]
  refine wpAnyH_take (i := 5) (v := ?_) (oi := { dst := some 3, op := _, type := _, pos := _, after := _, guard := none }) rfl (by kernel_rfl) (by kernel_rfl) (by kernel_rfl) (fun _ _ _ h => h) (Or.inl ⟨by kernel_rfl, ?_⟩) (by assumption) ?_
  case refine_2 => (intro w9 hSw; clear hSw; go_simp; try with_reducible rfl)
  simp only [Act.put, List.setIfInBounds_toArray, List.set_cons_zero, List.set_cons_succ]
  refine wpAnyH_done (by kernel_rfl) ?_ _
  go_wp2_with fail
  exact bodyPost_ret (v := .tuple #[v', .int .i64 0]) (by simp [results, Tryd.results10, go_sem]) rfl ⟨_, rfl, HOF.out, HBF.out⟩


end Go.Proofs.YtdonjdihffpghaaDoor
