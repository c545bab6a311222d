import Derived.Test.YtcgcljfdfimfgaaDoorR3
import Derived.Laws.AppendOwn
import Derived.Test.YtcgcljfdfimfgaaDoorR0
import Derived.Test.YtcgcljfdfimfgaaDoorRows
import Derived.WalkKit
import Derived.WalkSpells
import Derived.WalkLawsBesides
/- Contract: blob.Put of a table that can be, over what is known of the worlds behind the first. -/
namespace Go.Proofs.YtcgcljfdfimfgaaDoor
open Go.RowKit Sr
set_option linter.unusedVariables false

set_option maxRecDepth 100000 in
set_option maxHeartbeats 4000000 in
theorem put_on (T : List Value) (hT : T.length = 25) (nm : ByteArray) (h0 : T[0]? = some (.string nm)) (w : World) (B : List UInt8) (hB : B.length ≤ 900000)
    (HR : Hid (∀ w1 : World, Below w.heap.size w w1 → Calls Tryd.prog 9 #[.agg T.toArray] w1 fun e w' => e = .returned (.bool true) ∧ Below w1.heap.size w1 w'))
    (HN : Hid (∀ w1 : World, Below w.heap.size w w1 → Calls Tryd.prog 10 #[.string nm] w1 fun e w' => e = .returned (.bool true) ∧ Below w1.heap.size w1 w'))
    (HA : Hid (∀ w1 : World, Below w.heap.size w w1 → Calls Tryd.prog 11 #[.agg T.toArray] w1 fun e w' => e = .returned (.bool true) ∧ Below w1.heap.size w1 w'))
    (HP : Hid (PassW T w B)) :
    Calls Tryd.prog 4 #[.agg T.toArray] w fun e w' => ∃ v, e = .returned (.tuple #[v, .int .i64 0]) ∧ w'.ownsRow w.heap.size 5 1 v (B.length + 4) (cellsB (B ++ beB 4 (smB B))) ∧ Below w.heap.size w w' := by
  obtain ⟨i0, hi, hz0, hz1, hz2⟩ := info_parts infoU8
  have Y1 : Hid ((w.alloc (.cells T.toArray 46)).heap[w.heap.size]? = some (.cells T.toArray 46 (0, 0))) := World.alloc_heap_new w _
  have X1 : Hid (Bx (w.alloc (.cells T.toArray 46)) w.heap.size T) := Bx.new w T 46
  have B1 : Hid (Below w.heap.size w (w.alloc (.cells T.toArray 46))) := (Below.refl _ _).alloc (Nat.le_refl _) _
  go_enter Tryd.func4, Tryd.ntmps4
  generalize hUA : T.toArray = UA at *
  go_upto_region 1 with fail
  refine gen_code (fun V => V.heap[w.heap.size]? = some (.cells UA 46 (0, 0)) ∧ Bx V w.heap.size T ∧ Below w.heap.size w V) ⟨Y1.out, X1.out, B1.out⟩ ?_
  clear X1 B1 Y1
  rintro V ⟨HY, HX, HB⟩
  have HY : Hid (V.heap[w.heap.size]? = some (.cells UA 46 (0, 0))) := HY
  have HX : Hid (Bx V w.heap.size T) := HX
  have HB : Hid (Below w.heap.size w V) := HB
  have c0 := HX.out.c 0 h0
  go_wp2_with (first | (refine wpList_load_mid rfl 46 _ rfl w.heap.size 0 rfl T _ HX.out.all Tryd.underlying46 rfl (by rw [hT]; kernel_rfl) ?_) | fail)
  refine (HR.out _ HB.out).mono ?_
  rintro e v1 ⟨rfl, hb⟩
  have HY1 : Hid (v1.heap[w.heap.size]? = some (.cells UA 46 (0, 0))) := blk_below hb HY.out
  clear HY
  have HX1 : Hid (Bx v1 w.heap.size T) := HX.out.below hb
  have HB1 : Hid (Below w.heap.size w v1) := HB.out.trans (hb.mono HB.out.size)
  clear HX HB hb c0
  have HX : Hid (Bx v1 w.heap.size T) := HX1
  have HB : Hid (Below w.heap.size w v1) := HB1
  clear HX1 HB1
  have c0 := HX.out.c 0 h0
  go_wp2_with (first | (refine wpList_load_mid rfl 46 _ rfl w.heap.size 0 rfl T _ HX.out.all Tryd.underlying46 rfl (by rw [hT]; kernel_rfl) ?_) | fail)
  refine (HN.out _ HB.out).mono ?_
  rintro e v2 ⟨rfl, hb⟩
  have HX2 : Hid (Bx v2 w.heap.size T) := HX.out.below hb
  have HB2 : Hid (Below w.heap.size w v2) := HB.out.trans (hb.mono HB.out.size)
  have HY2 : Hid (v2.heap[w.heap.size]? = some (.cells UA 46 (0, 0))) := blk_below hb HY1.out
  clear HX HB hb c0 HY1
  have HX : Hid (Bx v2 w.heap.size T) := HX2
  have HB : Hid (Below w.heap.size w v2) := HB2
  clear HX2 HB2
  have c0 := HX.out.c 0 h0
  go_wp2_with (first | (refine wpList_step fun K hK => ?_; rw [show Region.wanted _ _ = true from by kernel_rfl, if_pos rfl]; refine wp_load_mid 46 _ rfl w.heap.size 0 rfl T _ HX.out.all Tryd.underlying46 rfl (by rw [hT]; kernel_rfl) (hK _ _ ?_)) | fail)
  refine (HA.out _ HB.out).mono ?_
  rintro e v3 ⟨rfl, hb⟩
  have HX3 : Hid (Bx v3 w.heap.size T) := HX.out.below hb
  have HB3 : Hid (Below w.heap.size w v3) := HB.out.trans (hb.mono HB.out.size)
  have HY3 : Hid (v3.heap[w.heap.size]? = some (.cells UA 46 (0, 0))) := blk_below hb HY2.out
  clear HX HB hb c0 HY2
  have HX : Hid (Bx v3 w.heap.size T) := HX3
  have HB : Hid (Below w.heap.size w v3) := HB3
  clear HX3 HB3
  have c0 := HX.out.c 0 h0
  clear HR HN HA c0
  have hcv : (convert 35 35 (.slice (some ⟨v3.heap.size, 0, none⟩) 4 4)).run Tryd.prog (v3.alloc (.cells #[.int .u8 84, .int .u8 90, .int .u8 52, .int .u8 48] 5)) = .ok (.slice (some ⟨v3.heap.size, 0, none⟩) 4 4) (v3.alloc (.cells #[.int .u8 84, .int .u8 90, .int .u8 52, .int .u8 48] 5 (4, 5))) := Lib.run_convert_bytes_const v3 35 5 #[.int .u8 84, .int .u8 90, .int .u8 52, .int .u8 48] 4 4 Tryd.underlying35 Tryd.underlying5
  obtain ⟨bb, hbb⟩ : ∃ bb, v3.heap.size + 1 = bb := ⟨_, rfl⟩
  go_upto_region 4 with fail
  obtain ⟨W4, hW4⟩ : ∃ W4, (v3.alloc (.cells #[.int .u8 84, .int .u8 90, .int .u8 52, .int .u8 48] 5 (4, 5))).alloc (.cells #[.slice (some ⟨v3.heap.size, 0, none⟩) 4 4] 35) = W4 := ⟨_, rfl⟩
  have hb4 : Below v3.heap.size v3 W4 := by rw [← hW4]; exact ((Below.refl _ v3).alloc (Nat.le_refl _) _).alloc (by simp) _
  have HW4 : Hid (WS w bb w.heap.size W4 tz40) := by
    have hz := HB.out.size
    have hz4 := hb4.size
    refine ⟨HB.out.trans (hb4.mono HB.out.size), by omega, Nat.le_refl _, by omega, by omega, .slice (some ⟨v3.heap.size, 0, none⟩) 4 4, ?_, .inr ⟨v3.heap.size, #[.int .u8 84, .int .u8 90, .int .u8 52, .int .u8 48], (4, 5), rfl, hz, ?_, rfl⟩⟩
    · rw [← hW4, ← hbb]
      have := World.alloc_heap_new (v3.alloc (.cells #[.int .u8 84, .int .u8 90, .int .u8 52, .int .u8 48] 5 (4, 5))) (.cells #[.slice (some ⟨v3.heap.size, 0, none⟩) 4 4] 35)
      rwa [World.size_alloc] at this
    · rw [← hW4]; exact (Below.heap_alloc _ _ _ (by simp)).trans (World.alloc_heap_new v3 _)
  have HY4 : Hid (W4.heap[w.heap.size]? = some (.cells UA 46 (0, 0))) := blk_below hb4 HY3.out
  have hbw : w.heap.size ≠ bb := by have := (Array.getElem?_eq_some_iff.1 HY3.out).1; omega
  clear hb4 hcv hbb
  try rw [hW4]
  clear HY3 HX HB hW4
  go_wp2_with fail
  refine (writer_any bb W4).mono ?_
  rintro e v5 ⟨rfl, hb5, hp5⟩
  have hlt4 : bb < W4.heap.size := by obtain ⟨u, hu, _⟩ := HW4.out.own; exact hu.lt
  have hpw : w.heap.size ≠ W4.heap.size := by have := (Array.getElem?_eq_some_iff.1 HY4.out).1; omega
  have HS5 : Hid ((wPM w bb w.heap.size W4.heap.size).St v5 tz40) := ⟨HW4.out.mv hb5, by decide, hp5, by omega⟩
  have HY5 : v5.heap[w.heap.size]? = some (.cells T.toArray 46 (0, 0)) := by rw [hUA]; exact blk_below hb5 HY4.out
  clear HW4 HY4 hb5 hp5
  go_wp2_with fail
  refine (HP.out bb W4.heap.size v5 HS5 HY5 hbw hpw).mono ?_
  rintro e v6 ⟨⟨r6, rfl⟩, hs6⟩
  have HS6 : Hid ((wPM w bb w.heap.size W4.heap.size).St v6 B) := hs6
  clear hs6 HS5 HY5 HP
  have hB0 : 0 < B.length := HS6.out.2.1
  obtain ⟨v, hv, hq⟩ := HS6.out.1.own
  obtain ⟨gq, cq, rfl, hrd⟩ := hq.rd hB0
  have HV6 : Hid (RS5 bb (.slice (some ⟨gq, 0, none⟩) B.length cq) v6) := hv
  have HQ6 : Hid (RowQ v6 w.heap.size (.slice (some ⟨gq, 0, none⟩) B.length cq) B) := hq
  have HD6 : Hid (∀ j u, (cellsB B)[j]? = some u → v6.cell? ((⟨gq, 0, none⟩ : Addr).add j) = some u) := hrd
  have HNB : Hid (some bb ≠ (Value.slice (some ⟨gq, 0, none⟩) B.length cq).ownBlock) := by
    intro e
    obtain ⟨cs, fz, h9⟩ := hq.blk5 bb e.symm
    rw [show v6.heap[bb]? = _ from hv] at h9
    simp at h9
  clear hv hq hrd
  go_wp2_with fail
  refine wp_region_held_drew (S := RS5 bb (.slice (some ⟨gq, 0, none⟩) B.length cq)) (by kernel_rfl) (RS5.below HV6.out (below_drew1 _)) (fun hHeld => ?_)
  have HQ : Hid (RowQ v6.drew w.heap.size (.slice (some ⟨gq, 0, none⟩) B.length cq) B) := HQ6.out.mv (fun g o _ hg => blk_below (below_drew1 _) hg)
  have HB : Hid (Below w.heap.size w v6.drew) := HS6.out.1.below.trans ((below_drew1 v6).mono HS6.out.1.below.size)
  have HD : Hid (∀ j u, (cellsB B)[j]? = some u → v6.drew.cell? ((⟨gq, 0, none⟩ : Addr).add j) = some u) := HD6.out
  clear HS6 HV6 HQ6 HD6
  refine wpAnyH_take (i := 0) (v := ?_) (oi := { dst := some 24, op := _, type := _, pos := _, after := _, guard := none }) rfl (by kernel_rfl) (by kernel_rfl) (by kernel_rfl) (fun _ _ _ h => h) (Or.inl ⟨by kernel_rfl, ?_⟩) (by assumption) ?_
  case refine_2 => (intro w9 hSw; have q0 := Boxed.cell hSw; go_simp; try with_reducible rfl)
  simp only [Act.put, List.setIfInBounds_toArray, List.set_cons_zero, List.set_cons_succ]
  refine wpAnyH_take (i := 1) (v := ?_) (oi := { dst := some 25, op := _, type := _, pos := _, after := _, guard := none }) rfl (by kernel_rfl) (by kernel_rfl) (by kernel_rfl) (fun _ _ _ h => h) (Or.inl ⟨by kernel_rfl, ?_⟩) (by assumption) ?_
  case refine_2 => (intro w9 hSw; have q0 := Boxed.cell hSw; go_simp; try with_reducible rfl)
  simp only [Act.put, List.setIfInBounds_toArray, List.set_cons_zero, List.set_cons_succ]
  refine wpAnyH_ready (rs := [2]) (by kernel_rfl) (by simp) (AllReadyH.cons (o := { dst := some 26, op := _, type := _, pos := _, after := _, guard := none }) rfl (fun K hK => ?_) AllReadyH.nil)
  go_simp
  refine (sumOf_any (some ⟨gq, 0, none⟩) B B.length cq rfl (by unfold maxLen; omega) _ (rd_of_cells HD.out)).mono ?_
  rintro e y1 ⟨rfl, hb1, hx1⟩
  have HQ1 : Hid (RowQ y1 w.heap.size (.slice (some ⟨gq, 0, none⟩) B.length cq) B) := HQ.out.mv (fun g o _ hg => blk_below hb1 hg)
  have HBq1 : Hid (Below w.heap.size w y1) := HB.out.trans (hb1.mono HB.out.size)
  have HZ1 : w.heap.size ≤ y1.heap.size := HBq1.out.size
  refine hK.out _ _ (hHeld.below hb1) (fun hHeld => ?_)
  clear hK K HQ HB HD hb1
  refine wpAnyH_ready (rs := [3]) (by kernel_rfl) (by simp) (AllReadyH.cons (o := { dst := some 27, op := _, type := _, pos := _, after := _, guard := none }) rfl (fun K hK => ?_) AllReadyH.nil)
  refine (if_pos (by kernel_rfl)).mpr (wp_append_Q _ _ rfl HQ1.out hB0 HZ1 rfl ⟨_, 0, none⟩ 4 4 rfl (beB_len 4 (smB B)) (.inl (by decide)) (by omega) (cells_rd hx1) ?_)
  intro v' w3 hown' hgrow3
  have HOF : Hid (w3.ownsRow w.heap.size 5 1 v' (B.length + 4) (cellsB (B ++ beB 4 (smB B)))) := by rw [cellsB_app]; exact hown'
  have HBF : Hid (Below w.heap.size w w3) := Below.grown HBq1.out hgrow3 HBq1.out.size (fun k hk => HQ1.out.lt _ hk)
  refine hK.out _ _ (hHeld.kept hgrow3 HNB.out) (fun hHeld => ?_)
  clear hK K hown' hgrow3
  refine wpAnyH_take (i := 4) (v := ?_) (oi := { dst := some 2, op := _, type := _, pos := _, after := _, guard := none }) rfl (by kernel_rfl) (by kernel_rfl) (by kernel_rfl) (fun _ _ _ h => h) (Or.inl ⟨by kernel_rfl, ?_⟩) (by assumption) ?_
  case refine_2 => (intro w9 hSw; clear hSw; go_simp; try with_reducible rfl)
  simp only [Act.put, List.setIfInBounds_toArray, List.set_cons_zero, List.set_cons_succ]
  refine wpAnyH_take (i := 5) (v := ?_) (oi := { dst := some 3, op := _, type := _, pos := _, after := _, guard := none }) rfl (by kernel_rfl) (by kernel_rfl) (by kernel_rfl) (fun _ _ _ h => h) (Or.inl ⟨by kernel_rfl, ?_⟩) (by assumption) ?_
  case refine_2 => (intro w9 hSw; clear hSw; go_simp; try with_reducible rfl)
  simp only [Act.put, List.setIfInBounds_toArray, List.set_cons_zero, List.set_cons_succ]
  refine wpAnyH_done (by kernel_rfl) ?_ _
  go_wp2_with fail
  exact bodyPost_ret (v := .tuple #[v', .int .i64 0]) (by simp [results, Tryd.results4, go_sem]) rfl ⟨_, rfl, HOF.out, HBF.out⟩

set_option maxRecDepth 100000 in
set_option maxHeartbeats 4000000 in
theorem put_no1 (T : List Value) (hT : T.length = 25) (nm : ByteArray) (h0 : T[0]? = some (.string nm)) (w : World)
    (HR : Hid (∀ w1 : World, Below w.heap.size w w1 → Calls Tryd.prog 9 #[.agg T.toArray] w1 fun e w' => e = .returned (.bool false) ∧ Below w1.heap.size w1 w')) :
    Calls Tryd.prog 4 #[.agg T.toArray] w fun e w' => e = .returned (.tuple #[.slice none 0 0, .int .i64 1]) ∧ Below w.heap.size w w' := by
  have Y1 : Hid ((w.alloc (.cells T.toArray 46)).heap[w.heap.size]? = some (.cells T.toArray 46 (0, 0))) := World.alloc_heap_new w _
  have X1 : Hid (Bx (w.alloc (.cells T.toArray 46)) w.heap.size T) := Bx.new w T 46
  have B1 : Hid (Below w.heap.size w (w.alloc (.cells T.toArray 46))) := (Below.refl _ _).alloc (Nat.le_refl _) _
  go_enter Tryd.func4, Tryd.ntmps4
  generalize hUA : T.toArray = UA at *
  go_upto_region 1 with fail
  refine gen_code (fun V => V.heap[w.heap.size]? = some (.cells UA 46 (0, 0)) ∧ Bx V w.heap.size T ∧ Below w.heap.size w V) ⟨Y1.out, X1.out, B1.out⟩ ?_
  clear X1 B1 Y1
  rintro V ⟨HY, HX, HB⟩
  have HY : Hid (V.heap[w.heap.size]? = some (.cells UA 46 (0, 0))) := HY
  have HX : Hid (Bx V w.heap.size T) := HX
  have HB : Hid (Below w.heap.size w V) := HB
  have c0 := HX.out.c 0 h0
  go_wp2_with (first | (refine wpList_load_mid rfl 46 _ rfl w.heap.size 0 rfl T _ HX.out.all Tryd.underlying46 rfl (by rw [hT]; kernel_rfl) ?_) | fail)
  refine (HR.out _ HB.out).mono ?_
  rintro e v1 ⟨rfl, hb⟩
  have HY1 : Hid (v1.heap[w.heap.size]? = some (.cells UA 46 (0, 0))) := blk_below hb HY.out
  clear HY
  have HX1 : Hid (Bx v1 w.heap.size T) := HX.out.below hb
  have HB1 : Hid (Below w.heap.size w v1) := HB.out.trans (hb.mono HB.out.size)
  clear HX HB hb c0
  have HX : Hid (Bx v1 w.heap.size T) := HX1
  have HB : Hid (Below w.heap.size w v1) := HB1
  clear HX1 HB1
  have c0 := HX.out.c 0 h0
  clear c0
  go_wp2_with fail
  go_ret2
  exact ⟨rfl, HB.out⟩

set_option maxRecDepth 100000 in
set_option maxHeartbeats 4000000 in
theorem put_no2 (T : List Value) (hT : T.length = 25) (nm : ByteArray) (h0 : T[0]? = some (.string nm)) (w : World)
    (HR : Hid (∀ w1 : World, Below w.heap.size w w1 → Calls Tryd.prog 9 #[.agg T.toArray] w1 fun e w' => e = .returned (.bool true) ∧ Below w1.heap.size w1 w'))
    (HN : Hid (∀ w1 : World, Below w.heap.size w w1 → Calls Tryd.prog 10 #[.string nm] w1 fun e w' => e = .returned (.bool false) ∧ Below w1.heap.size w1 w')) :
    Calls Tryd.prog 4 #[.agg T.toArray] w fun e w' => e = .returned (.tuple #[.slice none 0 0, .int .i64 1]) ∧ Below w.heap.size w w' := by
  have Y1 : Hid ((w.alloc (.cells T.toArray 46)).heap[w.heap.size]? = some (.cells T.toArray 46 (0, 0))) := World.alloc_heap_new w _
  have X1 : Hid (Bx (w.alloc (.cells T.toArray 46)) w.heap.size T) := Bx.new w T 46
  have B1 : Hid (Below w.heap.size w (w.alloc (.cells T.toArray 46))) := (Below.refl _ _).alloc (Nat.le_refl _) _
  go_enter Tryd.func4, Tryd.ntmps4
  generalize hUA : T.toArray = UA at *
  go_upto_region 1 with fail
  refine gen_code (fun V => V.heap[w.heap.size]? = some (.cells UA 46 (0, 0)) ∧ Bx V w.heap.size T ∧ Below w.heap.size w V) ⟨Y1.out, X1.out, B1.out⟩ ?_
  clear X1 B1 Y1
  rintro V ⟨HY, HX, HB⟩
  have HY : Hid (V.heap[w.heap.size]? = some (.cells UA 46 (0, 0))) := HY
  have HX : Hid (Bx V w.heap.size T) := HX
  have HB : Hid (Below w.heap.size w V) := HB
  have c0 := HX.out.c 0 h0
  go_wp2_with (first | (refine wpList_load_mid rfl 46 _ rfl w.heap.size 0 rfl T _ HX.out.all Tryd.underlying46 rfl (by rw [hT]; kernel_rfl) ?_) | fail)
  refine (HR.out _ HB.out).mono ?_
  rintro e v1 ⟨rfl, hb⟩
  have HY1 : Hid (v1.heap[w.heap.size]? = some (.cells UA 46 (0, 0))) := blk_below hb HY.out
  clear HY
  have HX1 : Hid (Bx v1 w.heap.size T) := HX.out.below hb
  have HB1 : Hid (Below w.heap.size w v1) := HB.out.trans (hb.mono HB.out.size)
  clear HX HB hb c0
  have HX : Hid (Bx v1 w.heap.size T) := HX1
  have HB : Hid (Below w.heap.size w v1) := HB1
  clear HX1 HB1
  have c0 := HX.out.c 0 h0
  go_wp2_with (first | (refine wpList_load_mid rfl 46 _ rfl w.heap.size 0 rfl T _ HX.out.all Tryd.underlying46 rfl (by rw [hT]; kernel_rfl) ?_) | fail)
  refine (HN.out _ HB.out).mono ?_
  rintro e v2 ⟨rfl, hb⟩
  have HX2 : Hid (Bx v2 w.heap.size T) := HX.out.below hb
  have HB2 : Hid (Below w.heap.size w v2) := HB.out.trans (hb.mono HB.out.size)
  have HY2 : Hid (v2.heap[w.heap.size]? = some (.cells UA 46 (0, 0))) := blk_below hb HY1.out
  clear HX HB hb c0 HY1
  have HX : Hid (Bx v2 w.heap.size T) := HX2
  have HB : Hid (Below w.heap.size w v2) := HB2
  clear HX2 HB2
  have c0 := HX.out.c 0 h0
  clear c0
  go_wp2_with fail
  go_ret2
  exact ⟨rfl, HB.out⟩

set_option maxRecDepth 100000 in
set_option maxHeartbeats 4000000 in
theorem put_no3 (T : List Value) (hT : T.length = 25) (nm : ByteArray) (h0 : T[0]? = some (.string nm)) (w : World)
    (HR : Hid (∀ w1 : World, Below w.heap.size w w1 → Calls Tryd.prog 9 #[.agg T.toArray] w1 fun e w' => e = .returned (.bool true) ∧ Below w1.heap.size w1 w'))
    (HN : Hid (∀ w1 : World, Below w.heap.size w w1 → Calls Tryd.prog 10 #[.string nm] w1 fun e w' => e = .returned (.bool true) ∧ Below w1.heap.size w1 w'))
    (HA : Hid (∀ w1 : World, Below w.heap.size w w1 → Calls Tryd.prog 11 #[.agg T.toArray] w1 fun e w' => e = .returned (.bool false) ∧ Below w1.heap.size w1 w')) :
    Calls Tryd.prog 4 #[.agg T.toArray] w fun e w' => e = .returned (.tuple #[.slice none 0 0, .int .i64 1]) ∧ Below w.heap.size w w' := by
  have Y1 : Hid ((w.alloc (.cells T.toArray 46)).heap[w.heap.size]? = some (.cells T.toArray 46 (0, 0))) := World.alloc_heap_new w _
  have X1 : Hid (Bx (w.alloc (.cells T.toArray 46)) w.heap.size T) := Bx.new w T 46
  have B1 : Hid (Below w.heap.size w (w.alloc (.cells T.toArray 46))) := (Below.refl _ _).alloc (Nat.le_refl _) _
  go_enter Tryd.func4, Tryd.ntmps4
  generalize hUA : T.toArray = UA at *
  go_upto_region 1 with fail
  refine gen_code (fun V => V.heap[w.heap.size]? = some (.cells UA 46 (0, 0)) ∧ Bx V w.heap.size T ∧ Below w.heap.size w V) ⟨Y1.out, X1.out, B1.out⟩ ?_
  clear X1 B1 Y1
  rintro V ⟨HY, HX, HB⟩
  have HY : Hid (V.heap[w.heap.size]? = some (.cells UA 46 (0, 0))) := HY
  have HX : Hid (Bx V w.heap.size T) := HX
  have HB : Hid (Below w.heap.size w V) := HB
  have c0 := HX.out.c 0 h0
  go_wp2_with (first | (refine wpList_load_mid rfl 46 _ rfl w.heap.size 0 rfl T _ HX.out.all Tryd.underlying46 rfl (by rw [hT]; kernel_rfl) ?_) | fail)
  refine (HR.out _ HB.out).mono ?_
  rintro e v1 ⟨rfl, hb⟩
  have HY1 : Hid (v1.heap[w.heap.size]? = some (.cells UA 46 (0, 0))) := blk_below hb HY.out
  clear HY
  have HX1 : Hid (Bx v1 w.heap.size T) := HX.out.below hb
  have HB1 : Hid (Below w.heap.size w v1) := HB.out.trans (hb.mono HB.out.size)
  clear HX HB hb c0
  have HX : Hid (Bx v1 w.heap.size T) := HX1
  have HB : Hid (Below w.heap.size w v1) := HB1
  clear HX1 HB1
  have c0 := HX.out.c 0 h0
  go_wp2_with (first | (refine wpList_load_mid rfl 46 _ rfl w.heap.size 0 rfl T _ HX.out.all Tryd.underlying46 rfl (by rw [hT]; kernel_rfl) ?_) | fail)
  refine (HN.out _ HB.out).mono ?_
  rintro e v2 ⟨rfl, hb⟩
  have HX2 : Hid (Bx v2 w.heap.size T) := HX.out.below hb
  have HB2 : Hid (Below w.heap.size w v2) := HB.out.trans (hb.mono HB.out.size)
  have HY2 : Hid (v2.heap[w.heap.size]? = some (.cells UA 46 (0, 0))) := blk_below hb HY1.out
  clear HX HB hb c0 HY1
  have HX : Hid (Bx v2 w.heap.size T) := HX2
  have HB : Hid (Below w.heap.size w v2) := HB2
  clear HX2 HB2
  have c0 := HX.out.c 0 h0
  go_wp2_with (first | (refine wpList_step fun K hK => ?_; rw [show Region.wanted _ _ = true from by kernel_rfl, if_pos rfl]; refine wp_load_mid 46 _ rfl w.heap.size 0 rfl T _ HX.out.all Tryd.underlying46 rfl (by rw [hT]; kernel_rfl) (hK _ _ ?_)) | fail)
  refine (HA.out _ HB.out).mono ?_
  rintro e v3 ⟨rfl, hb⟩
  have HX3 : Hid (Bx v3 w.heap.size T) := HX.out.below hb
  have HB3 : Hid (Below w.heap.size w v3) := HB.out.trans (hb.mono HB.out.size)
  have HY3 : Hid (v3.heap[w.heap.size]? = some (.cells UA 46 (0, 0))) := blk_below hb HY2.out
  clear HX HB hb c0 HY2
  have HX : Hid (Bx v3 w.heap.size T) := HX3
  have HB : Hid (Below w.heap.size w v3) := HB3
  clear HX3 HB3
  have c0 := HX.out.c 0 h0
  clear c0
  go_wp2_with fail
  go_ret2
  exact ⟨rfl, HB.out⟩

end Go.Proofs.YtcgcljfdfimfgaaDoor
/- How clocks stand, as cells; rows of them. -/
namespace Go.Proofs.YtcgcljfdfimfgaaDoor
set_option linter.unusedVariables false

/-- how clocks stand. -/
structure TrR where
  at_ : Int
  off : Int
  dst : Bool
  ab : ByteArray
def trC (x : TrR) : List Value := [.int .i64 x.at_, .int .i64 x.off, .bool x.dst, .string x.ab]
def trCs (l : List TrR) : List Value := l.flatMap trC
def zTr : TrR := ⟨0, 0, false, ⟨#[]⟩⟩
theorem trCs_app (a b : List TrR) : trCs (a ++ b) = trCs a ++ trCs b := by simp [trCs]
theorem trCs_cons (x : TrR) (b : List TrR) : trCs (x :: b) = trC x ++ trCs b := by simp [trCs]
theorem trCs_len (l : List TrR) : (trCs l).length = l.length * 4 := by
  induction l with
  | nil => rfl
  | cons x l ih => rw [trCs_cons, List.length_append, ih]; simp [trC]; omega
theorem trCs_one (l : List TrR) : ∀ u ∈ trCs l, u.oneCell' = true := by
  intro u hu
  simp only [trCs, List.mem_flatMap] at hu
  obtain ⟨x, _, hu⟩ := hu
  simp only [trC, List.mem_cons, List.not_mem_nil, or_false] at hu
  rcases hu with rfl | rfl | rfl | rfl <;> rfl
theorem trCs_get (D R : List TrR) (x : TrR) (i : Nat) (hi : i < 4) : (trCs (D ++ x :: R))[D.length * 4 + i]? = (trC x)[i]? := by
  rw [trCs_app, List.getElem?_append_right (by rw [trCs_len]; omega), trCs_len, show D.length * 4 + i - D.length * 4 = i by omega, trCs_cons, List.getElem?_append_left (by simpa [trC] using hi)]
theorem trCs_set (D R : List TrR) (x : TrR) (i : Nat) (hi : i < 4) (u : Value) : (trCs (D ++ x :: R)).set (D.length * 4 + i) u = trCs D ++ ((trC x).set i u ++ trCs R) := by
  rw [trCs_app, List.set_append_right _ _ (by rw [trCs_len]; omega), trCs_len, show D.length * 4 + i - D.length * 4 = i by omega, trCs_cons, List.set_append_left _ _ (by simpa [trC] using hi)]
theorem trCs_back (D R : List TrR) (x : TrR) : trCs D ++ (trC x ++ trCs R) = trCs (D ++ x :: R) := by rw [trCs_app, trCs_cons]
theorem take_set {l : List Value} {k i : Nat} {u : Value} (hi : i < k) : (l.set i u).take k = (l.take k).set i u := by
  apply List.ext_getElem?
  intro j
  by_cases hj : j < k
  · rw [List.getElem?_take, if_pos hj]
    by_cases e : i = j
    · subst e
      by_cases hl : i < l.length
      · rw [List.getElem?_set_self hl, List.getElem?_set_self (by rw [List.length_take]; omega)]
      · rw [List.getElem?_eq_none (by rw [List.length_set]; omega), List.getElem?_eq_none (by rw [List.length_set, List.length_take]; omega)]
    · rw [List.getElem?_set_ne e, List.getElem?_set_ne e, List.getElem?_take, if_pos hj]
  · rw [List.getElem?_take, if_neg hj, List.getElem?_eq_none]
    rw [List.length_set, List.length_take]; omega
/-- one cell of one element is another one. -/
theorem own_set {W' : World} {base g n cap i : Nat} {cur : Array Value} {D R : List TrR} {x y : TrR} {u : Value} (hi : i < 4) (hn : (D ++ x :: R).length = n) (hb : base ≤ g) (hcap : n ≤ cap) (hmax : cap ≤ maxLen) (hsz : cur.size = cap * 4) (htk : cur.toList.take (n * 4) = trCs (D ++ x :: R))
    (hy : (trC x).set i u = trC y) (h : W'.heap[g]? = some (.cells (cur.setIfInBounds (D.length * 4 + i) u) 23 (0, 0))) : W'.ownsRow base 23 4 (.slice (some ⟨g, 0, none⟩) n cap) n (trCs (D ++ y :: R)) := by
  have hlt : D.length * 4 + i < n * 4 := by rw [← hn]; simp; omega
  refine ⟨by rw [trCs_len, ← hn]; simp, .inr ⟨g, cap, _, rfl, hb, h, hcap, hmax, by simpa using hsz, ?_⟩⟩
  rw [Array.toList_setIfInBounds, take_set hlt, htk, trCs_set D R x i hi u, hy, trCs_back]

end Go.Proofs.YtcgcljfdfimfgaaDoor
/- Changes in memory, read. -/
namespace Go.Proofs.YtcgcljfdfimfgaaDoor
open Go.RowKit Sr
set_option linter.unusedVariables false

theorem tr_form {W : World} {base n : Nat} {v : Value} {L : List TrR} (h : W.ownsRow base 23 4 v n (trCs L)) (h0 : 0 < n) : ∃ g cap cur, v = .slice (some ⟨g, 0, none⟩) n cap ∧ base ≤ g ∧ W.heap[g]? = some (.cells cur 23 (0, 0)) ∧ n ≤ cap ∧ cap ≤ maxLen ∧ cur.size = cap * 4 ∧ cur.toList.take (n * 4) = trCs L := by
  rcases h.2 with ⟨_, z⟩ | ⟨g, cap, cur, a, b, c, d, e, f, i⟩
  · omega
  · exact ⟨g, cap, cur, a, b, c, d, e, f, i⟩
theorem tr_len {W : World} {base n : Nat} {v : Value} {xs : List Value} (h : W.ownsRow base 23 4 v n xs) : ∃ ao c, v = .slice ao n c := by
  rcases h.2 with ⟨a, z⟩ | ⟨g, cap, cur, a, _⟩
  · subst z; exact ⟨none, 0, a⟩
  · exact ⟨_, _, a⟩
theorem tr_cell {W : World} {b : Nat} {cs : Array Value} {t : TypeId} {fz : Nat × Nat} (h : W.heap[b]? = some (.cells cs t fz)) {i : Nat} {v : Value} (hi : cs[i]? = some v) : W.cell? ⟨b, i, none⟩ = some v := by simp [World.cell?, h, hi]
/-- the changes L lie where the slice sv says. -/
def TrAt (W : World) (sv : Value) (L : List TrR) : Prop := (∃ ao c, sv = .slice ao L.length c) ∧ L.length ≤ maxLen ∧ (L = [] ∨ ∃ g o c, sv = .slice (some ⟨g, o, none⟩) L.length c ∧ g < W.heap.size ∧ ∀ j u, (trCs L)[j]? = some u → W.cell? ⟨g, o + j, none⟩ = some u)
theorem TrAt.mv {W W' : World} {sv : Value} {L : List TrR} (h : TrAt W sv L) (k : Below W.heap.size W W') : TrAt W' sv L := by
  obtain ⟨h1, h2, h3⟩ := h
  refine ⟨h1, h2, h3.imp_right ?_⟩
  rintro ⟨g, o, c, e, hg, hc⟩
  exact ⟨g, o, c, e, Nat.lt_of_lt_of_le hg k.size, fun j u hj => (k.cell (p := ⟨g, o + j, none⟩) hg).trans (hc j u hj)⟩
theorem TrAt.of_own {W : World} {base : Nat} {sv : Value} {L : List TrR} (h : W.ownsRow base 23 4 sv L.length (trCs L)) : TrAt W sv L := by
  refine ⟨tr_len h, ?_, ?_⟩
  · rcases h.2 with ⟨_, z⟩ | ⟨g, cap, cur, _, _, _, h1, h2, _⟩
    · rw [z]; exact Nat.zero_le _
    · omega
  · rcases Nat.eq_zero_or_pos L.length with z | z
    · exact .inl (List.eq_nil_of_length_eq_zero z)
    · obtain ⟨g, cap, cur, rfl, _, hg, h1, h2, h3, h4⟩ := tr_form h z
      refine .inr ⟨g, 0, cap, rfl, (Array.getElem?_eq_some_iff.1 hg).1, fun j u hj => ?_⟩
      rw [Nat.zero_add]
      have hj9 := hj
      rw [← h4, List.getElem?_take] at hj9
      split at hj9
      · exact tr_cell hg (by simpa using hj9)
      · cases hj9
/-- the element j. -/
theorem TrAt.row {W : World} {sv : Value} {L : List TrR} (h : TrAt W sv L) {j : Nat} {x : TrR} (hj : L[j]? = some x) : ∃ g o c, sv = .slice (some ⟨g, o, none⟩) L.length c ∧ W.rangeAt g (o + j * 4) (trC x) := by
  have hlt := (List.getElem?_eq_some_iff.1 hj).1
  rcases h.2.2 with rfl | ⟨g, o, c, e, _, hc⟩
  · simp at hlt
  · refine ⟨g, o, c, e, fun i v hv => ?_⟩
    have hi : i < 4 := by have := (List.getElem?_eq_some_iff.1 hv).1; simpa [trC] using this
    have hsp : L = L.take j ++ x :: L.drop (j + 1) := by
      have h9 := List.take_append_drop j L
      rw [List.drop_eq_getElem_cons hlt, (List.getElem?_eq_some_iff.1 hj).2] at h9
      exact h9.symm
    have hg := trCs_get (L.take j) (L.drop (j + 1)) x i hi
    rw [← hsp, List.length_take, Nat.min_eq_left (by omega), hv] at hg
    have := hc _ _ hg
    rwa [← Nat.add_assoc] at this
theorem ret_b9 {a b : Bool} (h : a = b) : Ending.returned (.bool a) = .returned (.bool b) := by rw [h]

end Go.Proofs.YtcgcljfdfimfgaaDoor
/- Plain mathematics of whole numbers: how the quotient that cuts toward nought and the one that goes downward hang together, and how far each can go. -/
namespace Go.Proofs.YtcgcljfdfimfgaaDoor
set_option linter.unusedVariables false
namespace Nm

theorem tmod_neg_le {a b : Int} (h : a < 0) : a.tmod b ≤ 0 := by
  have := Int.tmod_nonneg (a := -a) b (by omega)
  rw [Int.neg_tmod] at this; omega

/-- where nothing is left, or what is left has the divisor's sign, both quotients are one. -/
theorem keep {a b : Int} (hb : b ≠ 0) (h : a.tmod b = 0 ∨ (a.tmod b < 0 ↔ b < 0)) : a.fdiv b = a.tdiv b ∧ a.fmod b = a.tmod b := by
  rw [Int.fdiv_eq_tdiv, Int.fmod_eq_tmod]
  by_cases hd : b ∣ a
  · simp [hd]
  · have hz : a.tmod b ≠ 0 := fun e => hd (Int.dvd_of_tmod_eq_zero e)
    have hs : a.tmod b < 0 ↔ b < 0 := by rcases h with h | h; exact absurd h hz; exact h
    rw [if_neg hd, if_neg hd]
    by_cases ha : 0 ≤ a
    · have h1 := Int.tmod_nonneg b ha
      have hb' : 0 ≤ b := by omega
      simp [ha, hb']
    · have h1 := tmod_neg_le (a := a) (b := b) (by omega)
      have hb' : ¬ 0 ≤ b := by omega
      rw [if_neg ha, if_neg hb', if_neg ha, if_neg hb', Int.sign_eq_neg_one_of_neg (by omega)]
      have : (b.toNat : Int) = 0 := by omega
      omega

/-- else the one that goes downward is one less, and what is left one divisor more. -/
theorem down {a b : Int} (hb : b ≠ 0) (hz : a.tmod b ≠ 0) (h : ¬ (a.tmod b < 0 ↔ b < 0)) : a.fdiv b = a.tdiv b - 1 ∧ a.fmod b = a.tmod b + b := by
  have hd : ¬ b ∣ a := fun e => hz (Int.tmod_eq_zero_of_dvd e)
  rw [Int.fdiv_eq_tdiv, Int.fmod_eq_tmod, if_neg hd, if_neg hd]
  by_cases ha : 0 ≤ a
  · have h1 := Int.tmod_nonneg b ha
    have hb' : ¬ 0 ≤ b := by omega
    simp [ha, hb']
  · have h1 := tmod_neg_le (a := a) (b := b) (by omega)
    have hb' : 0 ≤ b := by omega
    rw [if_neg ha, if_pos hb', if_neg ha, if_pos hb', Int.sign_eq_one_of_pos (by omega)]
    omega

theorem tmod_bd {a b : Int} (hb : b ≠ 0) : (a.tmod b).natAbs < b.natAbs := by
  have e : (a.tmod b).natAbs = a.natAbs % b.natAbs := Int.natAbs_tmod a b
  rw [e]
  exact Nat.mod_lt _ (by omega)

end Nm
end Go.Proofs.YtcgcljfdfimfgaaDoor
/- Plain mathematics of the calendar: leap years, lengths of months, the day on which a year begins, and that every day has one date. -/
namespace Go.Proofs.YtcgcljfdfimfgaaDoor
set_option linter.unusedVariables false
namespace Cv

def leap (y : Int) : Bool := (y % 4 == 0) && ((y % 100 != 0) || (y % 400 == 0))
/-- one more day in leap years. -/
def lp (y : Int) : Int := if leap y = true then 1 else 0
def len (y m : Int) : Int := if m = 2 then 28 + lp y else if m = 4 ∨ m = 6 ∨ m = 9 ∨ m = 11 then 30 else if 1 ≤ m ∧ m ≤ 12 then 31 else 0
/-- the day of January 1. -/
def S (y : Int) : Int := 365 * (y + 4800) + (y + 4803) / 4 - (y + 4899) / 100 + (y + 5199) / 400 - 2483649
/-- the days of a year ahead of a month; of month 13: all. -/
def cum (y m : Int) : Int :=
  if m ≤ 1 then 0 else if m = 2 then 31 else lp y + (if m = 3 then 59 else if m = 4 then 90 else if m = 5 then 120 else if m = 6 then 151 else if m = 7 then 181 else if m = 8 then 212 else if m = 9 then 243 else if m = 10 then 273 else if m = 11 then 304 else if m = 12 then 334 else 365)

theorem leap_iff (y : Int) : leap y = true ↔ (y % 4 = 0 ∧ (y % 100 ≠ 0 ∨ y % 400 = 0)) := by
  unfold leap; simp [bne_iff_ne]
theorem lp_eq (y : Int) : lp y = if (y % 4 = 0 ∧ (y % 100 ≠ 0 ∨ y % 400 = 0)) then 1 else 0 := by
  unfold lp; simp only [leap_iff]
theorem lp_01 (y : Int) : 0 ≤ lp y ∧ lp y ≤ 1 := by unfold lp; split <;> omega
theorem S_succ (y : Int) : S (y + 1) = S y + 365 + lp y := by
  rw [lp_eq]; unfold S; split <;> omega
theorem S_mono {y z : Int} (h : y ≤ z) : S y ≤ S z := by unfold S; omega
theorem S_lt {y z : Int} (h : S y < S z) : y < z := by
  by_cases g : z ≤ y
  · have := S_mono g; omega
  · omega
/-- a year's days: no other year has them. -/
theorem year_one {n y z : Int} (h1 : S y ≤ n) (h2 : n < S (y + 1)) (h3 : S z ≤ n) (h4 : n < S (z + 1)) : y = z := by
  have a : y < z + 1 := S_lt (by omega)
  have b : z < y + 1 := S_lt (by omega)
  omega
theorem guess (n y : Int) (h : y = n * 400 / 146097) : S (2000 + y - 1) ≤ n ∧ n < S (2000 + y + 2) ∧ (S (2000 + y) ≤ n ∨ S (2000 + y - 1) ≤ n) := by
  unfold S; omega
theorem year_is (n : Int) : ∃ y, S y ≤ n ∧ n < S (y + 1) := by
  obtain ⟨g1, g2, _⟩ := guess n _ rfl
  generalize n * 400 / 146097 = y at *
  by_cases a : n < S (2000 + y)
  · exact ⟨2000 + y - 1, g1, by rw [show 2000 + y - 1 + 1 = 2000 + y by omega]; exact a⟩
  · by_cases b : n < S (2000 + y + 1)
    · exact ⟨2000 + y, by omega, b⟩
    · exact ⟨2000 + y + 1, by omega, by rw [show 2000 + y + 1 + 1 = 2000 + y + 2 by omega]; exact g2⟩

theorem len_01 (y m : Int) (h1 : 1 ≤ m) (h2 : m ≤ 12) : 28 ≤ len y m ∧ len y m ≤ 31 := by
  have := lp_01 y
  unfold len; split
  · omega
  · split
    · omega
    · split <;> omega
theorem len_bd (y m : Int) : 0 ≤ len y m ∧ len y m ≤ 31 := by
  have := lp_01 y
  unfold len; split
  · omega
  · split
    · omega
    · split <;> omega
theorem len_out (y m : Int) (h : m < 1 ∨ 12 < m) : len y m = 0 := by
  unfold len
  rw [if_neg (by omega), if_neg (by omega), if_neg (by omega)]
theorem twelve {m : Int} (h1 : 1 ≤ m) (h2 : m ≤ 12) : m = 1 ∨ m = 2 ∨ m = 3 ∨ m = 4 ∨ m = 5 ∨ m = 6 ∨ m = 7 ∨ m = 8 ∨ m = 9 ∨ m = 10 ∨ m = 11 ∨ m = 12 := by omega
theorem cum_succ (y m : Int) (h1 : 1 ≤ m) (h2 : m ≤ 12) : cum y (m + 1) = cum y m + len y m := by
  rcases twelve h1 h2 with rfl | rfl | rfl | rfl | rfl | rfl | rfl | rfl | rfl | rfl | rfl | rfl <;> simp [cum, len] <;> omega
theorem cum_one (y : Int) : cum y 1 = 0 := by simp [cum]
theorem cum_all (y : Int) : cum y 13 = 365 + lp y := by simp [cum]; omega
theorem cum_bd (y m : Int) : 0 ≤ cum y m ∧ cum y m ≤ 366 := by
  have := lp_01 y
  by_cases a : m ≤ 1
  · unfold cum; rw [if_pos a]; omega
  · by_cases b : m ≤ 12
    · rcases twelve (m := m) (by omega) b with rfl | rfl | rfl | rfl | rfl | rfl | rfl | rfl | rfl | rfl | rfl | rfl <;> simp [cum] <;> omega
    · unfold cum
      rw [if_neg a, if_neg (by omega), if_neg (by omega), if_neg (by omega), if_neg (by omega), if_neg (by omega), if_neg (by omega), if_neg (by omega), if_neg (by omega), if_neg (by omega), if_neg (by omega), if_neg (by omega)]
      omega
theorem cum_mono {y a b : Int} (h0 : 1 ≤ a) (h : a ≤ b) (h1 : b ≤ 13) : cum y a ≤ cum y b := by
  have := lp_01 y
  obtain ⟨k, rfl⟩ : ∃ k : Nat, b = a + k := ⟨(b - a).toNat, by omega⟩
  clear h
  induction k with
  | zero => simp
  | succ k ih =>
    have i := ih (by omega)
    have c := cum_succ y (a + k) (by omega) (by omega)
    have l := len_bd y (a + k)
    rw [show a + ((k + 1 : Nat) : Int) = a + (k : Int) + 1 by omega, c]
    omega
/-- a day's month: no other month has it. -/
theorem month_is (y r : Int) (h1 : 0 ≤ r) (h2 : r < 365 + lp y) : ∃ m, 1 ≤ m ∧ m ≤ 12 ∧ cum y m ≤ r ∧ r < cum y (m + 1) := by
  have e := cum_all y
  have key : ∀ k : Nat, k ≤ 12 → r < cum y (k + 1) → ∃ m, 1 ≤ m ∧ m ≤ 12 ∧ cum y m ≤ r ∧ r < cum y (m + 1) := by
    intro k
    induction k with
    | zero => intro _ h; have e0 : cum y (((0 : Nat) : Int) + 1) = 0 := cum_one y; rw [e0] at h; omega
    | succ k ih =>
      intro hk h
      by_cases g : cum y ((k : Int) + 1) ≤ r
      · exact ⟨(k : Int) + 1, by omega, by omega, g, by rw [show ((k : Int) + 1 + 1) = ((k + 1 : Nat) : Int) + 1 by omega]; exact h⟩
      · exact ih (by omega) (by omega)
  exact key 12 (by omega) (by rw [show (((12 : Nat) : Int) + 1) = 13 by omega, e]; exact h2)
/-- a date of a day. -/
def Is (n y m d : Int) : Prop := 1 ≤ m ∧ m ≤ 12 ∧ 1 ≤ d ∧ d ≤ len y m ∧ n = S y + cum y m + d - 1
theorem is_date (n : Int) : ∃ y m d, Is n y m d := by
  obtain ⟨y, h1, h2⟩ := year_is n
  have e := S_succ y
  obtain ⟨m, m1, m2, c1, c2⟩ := month_is y (n - S y) (by omega) (by omega)
  have := cum_succ y m m1 m2
  exact ⟨y, m, n - S y - cum y m + 1, m1, m2, by omega, by omega, by omega⟩
theorem is_year {n y m d : Int} (h : Is n y m d) : S y ≤ n ∧ n < S (y + 1) := by
  obtain ⟨h1, h2, h3, h4, h5⟩ := h
  have a := cum_bd y m
  have b := cum_succ y m h1 h2
  have c := cum_mono (y := y) (a := m + 1) (b := 13) (by omega) (by omega) (by omega)
  have e := S_succ y
  rw [cum_all] at c
  omega
end Cv
end Go.Proofs.YtcgcljfdfimfgaaDoor
/- Contracts of the reference's mod, div, Leap, Len, Right, start, day, and of civil.Leap, Len, Right, newYear: each answers the plain mathematics. -/
namespace Go.Proofs.YtcgcljfdfimfgaaDoor.Cvl
open Go.RowKit
set_option linter.unusedVariables false

theorem ret_int {k : IntKind} {a b : Int} (h : a = b) : Ending.returned (.int k a) = .returned (.int k b) := by rw [h]
theorem ret_bool {a b : Bool} (h : a = b) : Ending.returned (.bool a) = .returned (.bool b) := by rw [h]

theorem mod_up {a b : Int} (hb : 0 < b) (h : a.tmod b < 0) : a % b = a.tmod b + b := by
  have e := (Nm.down (a := a) (b := b) (by omega) (by omega) (by omega)).2
  rw [Int.fmod_eq_emod_of_nonneg _ (by omega)] at e
  exact e
theorem mod_same {a b : Int} (hb : 0 < b) (h : ¬ a.tmod b < 0) : a % b = a.tmod b := by
  have e := (Nm.keep (a := a) (b := b) (by omega) (by omega)).2
  rw [Int.fmod_eq_emod_of_nonneg _ (by omega)] at e
  exact e
theorem div_down {a b : Int} (hb : 0 < b) (h : a.tmod b < 0) : a / b = a.tdiv b - 1 := by
  have e := (Nm.down (a := a) (b := b) (by omega) (by omega) (by omega)).1
  rw [Int.fdiv_eq_ediv_of_nonneg _ (by omega)] at e
  exact e
theorem div_same {a b : Int} (hb : 0 < b) (h : ¬ a.tmod b < 0) : a / b = a.tdiv b := by
  have e := (Nm.keep (a := a) (b := b) (by omega) (by omega)).1
  rw [Int.fdiv_eq_ediv_of_nonneg _ (by omega)] at e
  exact e
theorem tz (y k : Int) (hk : 0 < k) : (y.tmod k == 0) = (y % k == 0) := by
  rw [Bool.eq_iff_iff, beq_iff_eq, beq_iff_eq]
  exact ⟨fun h => Int.emod_eq_zero_of_dvd (Int.dvd_of_tmod_eq_zero h), fun h => Int.tmod_eq_zero_of_dvd (Int.dvd_of_emod_eq_zero h)⟩

theorem leap_of (y : Int) (a b c : Bool) (h4 : (y % 4 == 0) = a) (h100 : (y % 100 == 0) = b) (h400 : (y % 400 == 0) = c) : Cv.leap y = (a && (!b || c)) := by
  unfold Cv.leap bne; rw [h4, h100, h400]
theorem c400 (y : Int) (h4 : (y % 4 == 0) = false) : (y % 400 == 0) = false := by
  rw [beq_eq_false_iff_ne] at *; omega

set_option maxHeartbeats 400000 in
theorem leap_any (y : Int) (w : World) :
    Calls Tryd.prog 59 #[.int .i64 y] w fun e w' => e = .returned (.bool (Cv.leap y)) ∧ w' = w := by
  have t4 := tz y 4 (by decide)
  have t100 := tz y 100 (by decide)
  have t400 := tz y 400 (by decide)
  cases h4 : (y % 4 == 0) <;> cases h100 : (y % 100 == 0) <;> cases h400 : (y % 400 == 0)
  all_goals
    have hl : Hid (Cv.leap y = _) := leap_of y _ _ _ h4 h100 h400
    rw [h4] at t4
    rw [h100] at t100
    rw [h400] at t400
    have n100 : (y.tmod 100 != 0) = !(y.tmod 100 == 0) := rfl
    rw [t100] at n100
    have cc := c400 y
    go_enter Tryd.func59, Tryd.ntmps59
    go_wp2
    go_ret
    first
      | exact ⟨ret_bool (by rw [hl.out]; rfl), rfl⟩
      | exact absurd (cc h4) (by rw [h400]; decide)

end Go.Proofs.YtcgcljfdfimfgaaDoor.Cvl
/- Contracts, more: the reference's Leap, Len, Right, start, day; civil.Len, Right, newYear. -/
namespace Go.Proofs.YtcgcljfdfimfgaaDoor.Cvl
open Go.RowKit
set_option linter.unusedVariables false

/-- the table of lengths, as it is laid. -/
def tabL : List Int := [31, 28, 31, 30, 31, 30, 31, 31, 30, 31, 30, 31]
def Lens (w : World) : Prop := ∀ i, i < 12 → w.cell? ⟨1, i, none⟩ = some (.int .i64 (tabL.getD i 0))
theorem tab_len (y m : Int) (h1 : 1 ≤ m) (h2 : m ≤ 12) (h : m ≠ 2 ∨ Cv.leap y = false) : tabL.getD (m.toNat - 1) 0 = Cv.len y m := by
  rcases Cv.twelve h1 h2 with rfl | rfl | rfl | rfl | rfl | rfl | rfl | rfl | rfl | rfl | rfl | rfl
  · rfl
  · have e : Cv.leap y = false := by rcases h with h | h; exact absurd rfl h; exact h
    have : Cv.lp y = 0 := by unfold Cv.lp; rw [e]; rfl
    show (28 : Int) = Cv.len y 2
    simp [Cv.len, this]
  all_goals rfl
theorem len_leap (y : Int) (h : Cv.leap y = true) : Cv.len y 2 = 29 := by
  have : Cv.lp y = 1 := by unfold Cv.lp; rw [h]; rfl
  simp [Cv.len, this]
theorem len_flat (y : Int) (h : Cv.leap y = false) : Cv.len y 2 = 28 := by
  have : Cv.lp y = 0 := by unfold Cv.lp; rw [h]; rfl
  simp [Cv.len, this]

set_option maxHeartbeats 400000 in
theorem len_any (y m : Int) (w : World) (hw : Lens w) :
    Calls Tryd.prog 52 #[.int .i64 y, .int .i64 m] w fun e w' => e = .returned (.int .i64 (Cv.len y m)) ∧ w' = w := by
  by_cases h1 : m < 1
  · have hl : Hid (Cv.len y m = 0) := Cv.len_out y m (.inl h1)
    go_enter Tryd.func52, Tryd.ntmps52
    go_wp2
    go_ret
    exact ⟨ret_int hl.out.symm, rfl⟩
  · by_cases h2 : 12 < m
    · have hl : Hid (Cv.len y m = 0) := Cv.len_out y m (.inr h2)
      go_enter Tryd.func52, Tryd.ntmps52
      go_wp2
      go_ret
      exact ⟨ret_int hl.out.symm, rfl⟩
    · by_cases h3 : m = 2
      · subst h3
        cases hl : Cv.leap y
        · have e : Hid (Cv.len y 2 = 28) := len_flat y hl
          have hc : w.cell? ⟨1, 1, none⟩ = some (.int .i64 28) := hw 1 (by decide)
          go_enter Tryd.func52, Tryd.ntmps52
          go_wp2_with (go_at_call 59; refine (leap_any _ _).mono ?_; rintro e w' ⟨rfl, rfl⟩)
          go_ret
          exact ⟨ret_int e.out.symm, rfl⟩
        · have e : Hid (Cv.len y 2 = 29) := len_leap y hl
          go_enter Tryd.func52, Tryd.ntmps52
          go_wp2_with (go_at_call 59; refine (leap_any _ _).mono ?_; rintro e w' ⟨rfl, rfl⟩)
          go_ret
          exact ⟨ret_int e.out.symm, rfl⟩
      · have hb : (m == 2) = false := by rw [beq_eq_false_iff_ne]; exact h3
        have e : Hid (tabL.getD (m.toNat - 1) 0 = Cv.len y m) := tab_len y m (by omega) (by omega) (.inl h3)
        have hc : w.cell? ⟨1, m.toNat - 1, none⟩ = some (.int .i64 (tabL.getD (m.toNat - 1) 0)) := hw (m.toNat - 1) (by omega)
        generalize tabL.getD (m.toNat - 1) 0 = t at *
        go_enter Tryd.func52, Tryd.ntmps52
        go_wp2
        go_ret
        exact ⟨ret_int e.out, rfl⟩

/-- can the date be? -/
def right (y m d : Int) : Bool := decide (-4718 ≤ y ∧ y ≤ 294282 ∧ 1 ≤ d ∧ d ≤ Cv.len y m)
theorem right_no {y m d : Int} (h : ¬ (-4718 ≤ y ∧ y ≤ 294282 ∧ 1 ≤ d ∧ d ≤ Cv.len y m)) : right y m d = false := decide_eq_false h
theorem right_yes {y m d : Int} (h : -4718 ≤ y ∧ y ≤ 294282 ∧ 1 ≤ d ∧ d ≤ Cv.len y m) : right y m d = true := decide_eq_true h
theorem right_mon {y m d : Int} (h : -4718 ≤ y ∧ y ≤ 294282 ∧ 1 ≤ d ∧ d ≤ Cv.len y m) : 1 ≤ m ∧ m ≤ 12 := by
  by_cases g : m < 1 ∨ 12 < m
  · have := Cv.len_out y m g; omega
  · omega

set_option maxHeartbeats 400000 in
theorem right_any (y m d : Int) (w : World) (hw : Lens w) :
    Calls Tryd.prog 75 #[.int .i64 y, .int .i64 m, .int .i64 d] w fun e w' => e = .returned (.bool (right y m d)) ∧ w' = w := by
  have H1 : Hid (∀ m, Calls Tryd.prog 52 #[.int .i64 y, .int .i64 m] w fun e w' => e = .returned (.int .i64 (Cv.len y m)) ∧ w' = w) := fun m => len_any y m w hw
  by_cases h1 : -4718 ≤ y
  · by_cases h2 : y ≤ 294282
    · by_cases h3 : 1 ≤ d
      · by_cases h4 : d ≤ Cv.len y m
        · have e : Hid (right y m d = true) := right_yes ⟨h1, h2, h3, h4⟩
          go_enter Tryd.func75, Tryd.ntmps75
          go_wp2_with fail
          refine (H1.out _).mono ?_
          rintro e w' ⟨rfl, rfl⟩
          go_wp2
          go_ret
          exact ⟨ret_bool e.out.symm, rfl⟩
        · have e : Hid (right y m d = false) := right_no (fun h => h4 h.2.2.2)
          go_enter Tryd.func75, Tryd.ntmps75
          go_wp2_with fail
          refine (H1.out _).mono ?_
          rintro e w' ⟨rfl, rfl⟩
          go_wp2
          go_ret
          exact ⟨ret_bool (by rw [e.out]; exact decide_eq_false (by omega)), rfl⟩
      · have e : Hid (right y m d = false) := right_no (fun h => h3 h.2.2.1)
        go_enter Tryd.func75, Tryd.ntmps75
        go_wp2
        go_ret
        exact ⟨ret_bool e.out.symm, rfl⟩
    · have e : Hid (right y m d = false) := right_no (fun h => h2 h.2.1)
      go_enter Tryd.func75, Tryd.ntmps75
      go_wp2
      go_ret
      exact ⟨ret_bool e.out.symm, rfl⟩
  · have e : Hid (right y m d = false) := right_no (fun h => h1 h.1)
    go_enter Tryd.func75, Tryd.ntmps75
    go_wp2
    go_ret
    exact ⟨ret_bool e.out.symm, rfl⟩

set_option maxHeartbeats 400000 in
theorem new_any (y : Int) (h1 : -4800 ≤ y) (h2 : y ≤ 1000000) (w : World) :
    Calls Tryd.prog 51 #[.int .i64 y] w fun e w' => e = .returned (.int .i64 (Cv.S y)) ∧ w' = w := by
  go_enter Tryd.func51, Tryd.ntmps51
  go_wp2
  go_ret
  exact ⟨ret_int (by unfold Cv.S; omega), rfl⟩

theorem S_bd (y : Int) (h1 : -1000000 ≤ y) (h2 : y ≤ 1000000) : -1000000000 ≤ Cv.S y ∧ Cv.S y ≤ 1000000000 := by unfold Cv.S; omega
end Go.Proofs.YtcgcljfdfimfgaaDoor.Cvl
