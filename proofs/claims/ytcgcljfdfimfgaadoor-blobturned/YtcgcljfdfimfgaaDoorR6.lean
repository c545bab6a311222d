import Derived.Test.YtcgcljfdfimfgaaDoorR5
import Derived.Deep.Cut
import Derived.Lib.SlBytesConst
/- Contract: blob.Get of what is read and written again. -/
namespace Go.Proofs.YtcgcljfdfimfgaaDoor
open Go.RowKit Sr
set_option linter.unusedVariables false

/-- what pass does with a new table, as Get calls it. -/
def PassR (T : List Value) (w : World) (R : List UInt8) : Prop := ∀ (rb pb tb : Nat) (W : World), RS w rb pb W R → W.heap[tb]? = some (.cells zerL.toArray 46 (0, 0)) → tb ≠ rb → tb ≠ pb → w.heap.size ≤ tb →
  Calls Tryd.prog 12 #[.pointer (some ⟨tb, 0, none⟩), .agg (rPM w rb pb).agg] W fun e W' => (∃ v, e = .returned v) ∧ (∃ σ, RS w rb pb W' σ) ∧ W'.heap[tb]? = some (.cells T.toArray 46 (0, 0)) ∧ KT2 rb tb W W'

set_option maxRecDepth 100000 in
set_option maxHeartbeats 4000000 in
theorem get_yes (g o c m : Nat) (R Sm : List UInt8) (hBd : (tz40 ++ R).length = m) (hSm : Sm.length = 4) (hm4 : 4 ≤ m) (hc : m + 4 ≤ c) (hcx : c ≤ maxLen) (w : World) (hg : g < w.heap.size) (HB1 : Hid (AtB w g o (tz40 ++ R))) (HS1 : Hid (AtB w g (o + m) Sm)) (hsum : (Sm == beB 4 (smB (tz40 ++ R))) = true) (gcs : Array Value) (gfz : Nat × Nat) (hgb : w.heap[g]? = some (.cells gcs 5 gfz)) (T : List Value) (hT : T.length = 25) (honeT : T.toArray.all (·.oneCell') = true)
    (HPr : Hid (PassR T w R)) (HPut : Hid (∀ w : World, Calls Tryd.prog 4 #[.agg T.toArray] w fun e w' => ∃ v, e = .returned (.tuple #[v, .int .i64 0]) ∧ w'.ownsRow w.heap.size 5 1 v (m + 4) (cellsB (tz40 ++ R ++ Sm)) ∧ Below w.heap.size w w')) :
    Calls Tryd.prog 8 #[.slice (some ⟨g, o, none⟩) (m + 4) c] w fun e w' => e = .returned (.tuple #[.agg T.toArray, .int .i64 0]) ∧ Below w.heap.size w w' := by
  have HB0 : Hid (AtB w g o (tz40 ++ R)) := HB1
  have HL0 : Hid (AtB w g o (tz40 ++ R ++ Sm)) := by
    intro j x hj
    by_cases hlt : j < m
    · rw [List.getElem?_append_left (by omega)] at hj; exact HB1.out j x hj
    · rw [List.getElem?_append_right (by omega), hBd] at hj
      have := HS1.out (j - m) x hj
      rwa [show o + m + (j - m) = o + j by omega] at this
  have hcm : c ≤ 9223372036854775807 := hcx
  have hwm : IntKind.i64.wrap (m : Int) = (m : Int) := by rw [IntKind.wrap_i64]; omega
  have X1 : Hid ((w.alloc (.cells zerL.toArray 46)).heap[w.heap.size]? = some (.cells zerL.toArray 46 (0, 0))) := World.alloc_heap_new w _
  have B1 : Hid (Below w.heap.size w (w.alloc (.cells zerL.toArray 46))) := (Below.refl _ _).alloc (Nat.le_refl _) _
  go_enter Tryd.func8, Tryd.ntmps8
  go_upto_region 1 with fail
  refine gen_code (fun V => V.heap[w.heap.size]? = some (.cells zerL.toArray 46 (0, 0)) ∧ Below w.heap.size w V) ⟨X1.out, B1.out⟩ ?_
  clear X1 B1
  rintro V ⟨XV, BV⟩
  have HX : Hid (V.heap[w.heap.size]? = some (.cells zerL.toArray 46 (0, 0))) := XV
  have HB : Hid (Below w.heap.size w V) := BV
  clear XV BV
  go_wp2_with fail
  refine wp_region_held_drew (S := fun _ => True) (by kernel_rfl) trivial (fun hHeld => ?_)
  refine wpAnyH_take (i := 0) (v := ?_) (oi := { dst := some 15, op := _, type := _, pos := _, after := _, guard := none }) rfl (by kernel_rfl) (by kernel_rfl) (by kernel_rfl) (fun _ _ _ h => h) (Or.inl ⟨by kernel_rfl, ?_⟩) (by assumption) ?_
  case refine_2 => (intro w9 hSw; clear hSw; (go_simp); (try omega); (try (rw [if_pos (by omega), if_neg (by omega)])); try with_reducible rfl)
  simp only [Act.put, List.setIfInBounds_toArray, List.set_cons_zero, List.set_cons_succ]
  refine wpAnyH_take (i := 1) (v := ?_) (oi := { dst := some 16, op := _, type := _, pos := _, after := _, guard := none }) rfl (by kernel_rfl) (by kernel_rfl) (by kernel_rfl) (fun _ _ _ h => h) (Or.inl ⟨by kernel_rfl, ?_⟩) (by assumption) ?_
  case refine_2 => (intro w9 hSw; clear hSw; (go_simp); (try omega); (try (rw [if_pos (by omega), if_neg (by omega)])); try with_reducible rfl)
  simp only [Act.put, List.setIfInBounds_toArray, List.set_cons_zero, List.set_cons_succ]
  refine wpAnyH_take (i := 2) (v := ?_) (oi := { dst := some 17, op := _, type := _, pos := _, after := _, guard := none }) rfl (by kernel_rfl) (by kernel_rfl) (by kernel_rfl) (fun _ _ _ h => h) (Or.inl ⟨by kernel_rfl, ?_⟩) (by assumption) ?_
  case refine_2 => (intro w9 hSw; clear hSw; (go_simp); (try omega); (try (rw [if_pos (by omega), if_neg (by omega)])); try with_reducible rfl)
  simp only [Act.put, List.setIfInBounds_toArray, List.set_cons_zero, List.set_cons_succ]
  refine wpAnyH_take (i := 3) (v := ?_) (oi := { dst := some 18, op := _, type := _, pos := _, after := _, guard := none }) rfl (by kernel_rfl) (by kernel_rfl) (by kernel_rfl) (fun _ _ _ h => h) (Or.inl ⟨by kernel_rfl, ?_⟩) (by assumption) ?_
  case refine_2 => (intro w9 hSw; clear hSw; (go_simp); (try omega); (try (rw [if_pos (by omega), if_neg (by omega)])); try with_reducible rfl)
  simp only [Act.put, List.setIfInBounds_toArray, List.set_cons_zero, List.set_cons_succ]
  refine wpAnyH_take (i := 4) (v := .slice (some ⟨g, o, none⟩) m c) (oi := { dst := some 19, op := _, type := _, pos := _, after := _, guard := none }) rfl (by kernel_rfl) (by kernel_rfl) (by kernel_rfl) (fun _ _ _ h => h) (Or.inl ⟨by kernel_rfl, ?_⟩) (by assumption) ?_
  case refine_1 => (intro w9 hSw; clear hSw; (go_simp); (try omega); (try (rw [if_pos (by omega), if_neg (by omega)])); try with_reducible rfl)
  simp only [Act.put, List.setIfInBounds_toArray, List.set_cons_zero, List.set_cons_succ]
  refine wpAnyH_take (i := 5) (v := ?_) (oi := { dst := some 20, op := _, type := _, pos := _, after := _, guard := none }) rfl (by kernel_rfl) (by kernel_rfl) (by kernel_rfl) (fun _ _ _ h => h) (Or.inl ⟨by kernel_rfl, ?_⟩) (by assumption) ?_
  case refine_2 => (intro w9 hSw; clear hSw; (go_simp); (try omega); (try (rw [if_pos (by omega), if_neg (by omega)])); try with_reducible rfl)
  simp only [Act.put, List.setIfInBounds_toArray, List.set_cons_zero, List.set_cons_succ]
  refine wpAnyH_take (i := 6) (v := ?_) (oi := { dst := some 21, op := _, type := _, pos := _, after := _, guard := none }) rfl (by kernel_rfl) (by kernel_rfl) (by kernel_rfl) (fun _ _ _ h => h) (Or.inl ⟨by kernel_rfl, ?_⟩) (by assumption) ?_
  case refine_2 => (intro w9 hSw; clear hSw; (go_simp); (try omega); (try (rw [if_pos (by omega), if_neg (by omega)])); try with_reducible rfl)
  simp only [Act.put, List.setIfInBounds_toArray, List.set_cons_zero, List.set_cons_succ]
  refine wpAnyH_take (i := 7) (v := ?_) (oi := { dst := some 22, op := _, type := _, pos := _, after := _, guard := none }) rfl (by kernel_rfl) (by kernel_rfl) (by kernel_rfl) (fun _ _ _ h => h) (Or.inl ⟨by kernel_rfl, ?_⟩) (by assumption) ?_
  case refine_2 => (intro w9 hSw; clear hSw; (go_simp); (try omega); (try (rw [if_pos (by omega), if_neg (by omega)])); try with_reducible rfl)
  simp only [Act.put, List.setIfInBounds_toArray, List.set_cons_zero, List.set_cons_succ]
  refine wpAnyH_take (i := 8) (v := ?_) (oi := { dst := some 23, op := _, type := _, pos := _, after := _, guard := none }) rfl (by kernel_rfl) (by kernel_rfl) (by kernel_rfl) (fun _ _ _ h => h) (Or.inl ⟨by kernel_rfl, ?_⟩) (by assumption) ?_
  case refine_2 => (intro w9 hSw; clear hSw; (go_simp); (try omega); (try (rw [if_pos (by omega), if_neg (by omega)])); try with_reducible rfl)
  simp only [Act.put, List.setIfInBounds_toArray, List.set_cons_zero, List.set_cons_succ]
  refine wpAnyH_take (i := 9) (v := .slice (some ⟨g, o + m, none⟩) 4 (c - m)) (oi := { dst := some 24, op := _, type := _, pos := _, after := _, guard := none }) rfl (by kernel_rfl) (by kernel_rfl) (by kernel_rfl) (fun _ _ _ h => h) (Or.inl ⟨by kernel_rfl, ?_⟩) (by assumption) ?_
  case refine_1 => (intro w9 hSw; clear hSw; (go_simp); (try omega); (try (rw [if_pos (by omega), if_neg (by omega)])); try with_reducible rfl)
  simp only [Act.put, List.setIfInBounds_toArray, List.set_cons_zero, List.set_cons_succ]
  refine wpAnyH_take (i := 10) (v := ?_) (oi := { dst := some 4, op := _, type := _, pos := _, after := _, guard := none }) rfl (by kernel_rfl) (by kernel_rfl) (by kernel_rfl) (fun _ _ _ h => h) (Or.inl ⟨by kernel_rfl, ?_⟩) (by assumption) ?_
  case refine_2 => (intro w9 hSw; clear hSw; (go_simp); (try omega); (try (rw [if_pos (by omega), if_neg (by omega)])); try with_reducible rfl)
  simp only [Act.put, List.setIfInBounds_toArray, List.set_cons_zero, List.set_cons_succ]
  refine wpAnyH_take (i := 11) (v := ?_) (oi := { dst := some 5, op := _, type := _, pos := _, after := _, guard := none }) rfl (by kernel_rfl) (by kernel_rfl) (by kernel_rfl) (fun _ _ _ h => h) (Or.inl ⟨by kernel_rfl, ?_⟩) (by assumption) ?_
  case refine_2 => (intro w9 hSw; clear hSw; (go_simp); (try omega); (try (rw [if_pos (by omega), if_neg (by omega)])); try with_reducible rfl)
  simp only [Act.put, List.setIfInBounds_toArray, List.set_cons_zero, List.set_cons_succ]
  refine wpAnyH_done (by kernel_rfl) ?_ _
  refine gen_then (fun V => V.heap[w.heap.size]? = some (.cells zerL.toArray 46 (0, 0)) ∧ Below w.heap.size w V) ⟨HX.out, HB.out.trans ((below_drew1 V).mono HB.out.size)⟩ ?_
  clear HX HB hHeld
  rintro V2 ⟨XV, BV⟩
  have HX : Hid (V2.heap[w.heap.size]? = some (.cells zerL.toArray 46 (0, 0))) := XV
  have HB : Hid (Below w.heap.size w V2) := BV
  have hVg : g < V2.heap.size := Nat.lt_of_lt_of_le hg BV.size
  have HB2 : Hid (AtB V2 g o (tz40 ++ R)) := HB1.out.mv hg (BV.mono (Nat.le_refl _))
  have HS2 : Hid (AtB V2 g (o + m) Sm) := HS1.out.mv hg (BV.mono (Nat.le_refl _))
  clear XV BV HB1 HS1
  have hcv : (convert 35 35 (.slice (some ⟨V2.heap.size, 0, none⟩) 4 4)).run Tryd.prog (V2.alloc (.cells #[.int .u8 84, .int .u8 90, .int .u8 52, .int .u8 48] 5)) = .ok (.slice (some ⟨V2.heap.size, 0, none⟩) 4 4) (V2.alloc (.cells #[.int .u8 84, .int .u8 90, .int .u8 52, .int .u8 48] 5 (4, 5))) := Lib.run_convert_bytes_const V2 35 5 #[.int .u8 84, .int .u8 90, .int .u8 52, .int .u8 48] 4 4 Tryd.underlying35 Tryd.underlying5
  obtain ⟨V3, hV3⟩ : ∃ V3, V2.alloc (.cells #[.int .u8 84, .int .u8 90, .int .u8 52, .int .u8 48] 5 (4, 5)) = V3 := ⟨_, rfl⟩
  rw [hV3] at hcv
  have hb3 : Below V2.heap.size V2 V3 := by rw [← hV3]; exact (Below.refl _ V2).alloc (Nat.le_refl _) _
  have HX3 : Hid (V3.heap[w.heap.size]? = some (.cells zerL.toArray 46 (0, 0))) := blk_below hb3 HX.out
  have HBL3 : Hid (Below w.heap.size w V3) := HB.out.trans (hb3.mono HB.out.size)
  have HB3 : Hid (AtB V3 g o (tz40 ++ R)) := HB2.out.mv hVg hb3
  have HS3 : Hid (AtB V3 g (o + m) Sm) := HS2.out.mv hVg hb3
  have HT3 : Hid (AtB V3 V2.heap.size 0 tz40) := AtB.of_bx ⟨by rw [← hV3]; simp, fun i v hv => by
    have hh : V3.heap[V2.heap.size]? = some (.cells (cellsB tz40).toArray 5 (4, 5)) := by rw [← hV3]; exact World.alloc_heap_new V2 _
    have hi : i < 4 := (List.getElem?_eq_some_iff.1 hv).1
    exact ⟨cell_of hh (by simpa using hv), by simp [World.frozen?, hh]; omega⟩⟩
  have hVg3 : g < V3.heap.size := Nat.lt_of_lt_of_le hVg hb3.size
  clear HX HB HB2 HS2 hb3 hV3 hVg
  go_wp2_with fail
  refine (cutp_yes g o m c V2.heap.size 4 R hBd (by omega) (by omega) V3 HB3.out HT3.out).mono ?_
  rintro e w' ⟨rfl, hw⟩
  obtain rfl := hw.symm
  clear hw hcv HT3
  have HZ3 : Hid (V3.heap[w.heap.size]? = some (.cells zerL.toArray 46 (0, 0))) := HX3
  have hzl : w.heap.size < V3.heap.size := (Array.getElem?_eq_some_iff.1 HZ3.out).1
  go_upto_region 7 with fail
  refine gen_code (fun V => V.heap[w.heap.size]? = some (.cells zerL.toArray 46 (0, 0)) ∧ Below V3.heap.size V3 V ∧ V.heap[V3.heap.size]? = some (.cells #[.slice (some ⟨g, o + 4, none⟩) (m - 4) (c - 4)] 35 (0, 0))) ⟨(Below.heap_alloc _ _ _ hzl).trans HZ3.out, (Below.refl _ V3).alloc (Nat.le_refl _) _, World.alloc_heap_new V3 _⟩ ?_
  rintro V5 ⟨Z5, B5, Y5⟩
  have HZ5 : Hid (V5.heap[w.heap.size]? = some (.cells zerL.toArray 46 (0, 0))) := Z5
  have HY5 : Hid (V5.heap[V3.heap.size]? = some (.cells #[.slice (some ⟨g, o + 4, none⟩) (m - 4) (c - 4)] 35 (0, 0))) := Y5
  have HBL5 : Hid (Below w.heap.size w V5) := HBL3.out.trans (B5.mono HBL3.out.size)
  have HB5 : Hid (AtB V5 g o (tz40 ++ R)) := HB3.out.mv hVg3 B5
  have HS5 : Hid (AtB V5 g (o + m) Sm) := HS3.out.mv hVg3 B5
  have hVg5 : g < V5.heap.size := Nat.lt_of_lt_of_le hVg3 B5.size
  have hrb5 : w.heap.size < V3.heap.size := hzl
  obtain ⟨rb, hrb⟩ : ∃ rb, V3.heap.size = rb := ⟨_, rfl⟩
  rw [hrb] at HY5 hrb5 ⊢
  clear Z5 B5 Y5 HB3 HS3 HX3 HBL3 HZ3 hzl hVg3 hrb
  go_wp2_with fail
  refine (sumOf_any (some ⟨g, o, none⟩) (tz40 ++ R) m c hBd (by unfold maxLen; omega) V5 HB5.out.rd).mono ?_
  rintro e v6 ⟨rfl, hb6, hx6⟩
  have HZ6 : Hid (v6.heap[w.heap.size]? = some (.cells zerL.toArray 46 (0, 0))) := blk_below hb6 HZ5.out
  have HY6 : Hid (v6.heap[rb]? = some (.cells #[.slice (some ⟨g, o + 4, none⟩) (m - 4) (c - 4)] 35 (0, 0))) := blk_below hb6 HY5.out
  have HBL6 : Hid (Below w.heap.size w v6) := HBL5.out.trans (hb6.mono HBL5.out.size)
  have HS6 : Hid (AtB v6 g (o + m) Sm) := HS5.out.mv hVg5 hb6
  have HQ6 : Hid (AtB v6 V5.heap.size 0 (beB 4 (smB (tz40 ++ R)))) := AtB.of_bx hx6
  clear HZ5 HY5 HBL5 HB5 HS5 hb6 hx6
  go_wp2_with fail
  refine (equal_any g (o + m) V5.heap.size 0 4 4 (c - m) 4 Sm (beB 4 (smB (tz40 ++ R))) hSm (beB_len _ _) v6 HS6.out HQ6.out).mono ?_
  rintro e w' ⟨rfl, hw⟩
  obtain rfl := hw.symm
  clear hw HQ6 HS6
  rw [hsum]
  go_upto_region 10 with fail
  have hb7 : Below v6.heap.size v6 (v6.alloc (.cells zerL.toArray 46)) := (Below.refl _ v6).alloc (Nat.le_refl _) _
  obtain ⟨tb, htb⟩ : ∃ tb, v6.heap.size = tb := ⟨_, rfl⟩
  refine gen_code (fun V => Below v6.heap.size v6 V ∧ V.heap[tb]? = some (.cells zerL.toArray 46 (0, 0))) ⟨hb7, by rw [← htb]; exact World.alloc_heap_new v6 _⟩ ?_
  clear hb7
  rintro V7 ⟨b7, T7⟩
  have HZ7 : Hid (V7.heap[w.heap.size]? = some (.cells zerL.toArray 46 (0, 0))) := blk_below b7 HZ6.out
  have HY7 : Hid (V7.heap[rb]? = some (.cells #[.slice (some ⟨g, o + 4, none⟩) (m - 4) (c - 4)] 35 (0, 0))) := blk_below b7 HY6.out
  have HBL7 : Hid (Below w.heap.size w V7) := HBL6.out.trans (b7.mono HBL6.out.size)
  have HT7 : Hid (V7.heap[tb]? = some (.cells zerL.toArray 46 (0, 0))) := T7
  have htz : w.heap.size < tb := by have := (Array.getElem?_eq_some_iff.1 HZ6.out).1; omega
  have htr : rb < tb := by have := (Array.getElem?_eq_some_iff.1 HY6.out).1; omega
  rw [htb]
  clear b7 T7 HZ6 HY6 HBL6 htb
  go_wp2_with fail
  refine (reader_any rb V7).mono ?_
  rintro e v8 ⟨rfl, hb8, hp8⟩
  have htl : tb < V7.heap.size := (Array.getElem?_eq_some_iff.1 HT7.out).1
  have HZ8 : Hid (v8.heap[w.heap.size]? = some (.cells zerL.toArray 46 (0, 0))) := blk_below hb8 HZ7.out
  have HY8 : v8.heap[rb]? = some (.cells #[.slice (some ⟨g, o + 4, none⟩) (m - 4) (c - 4)] 35 (0, 0)) := blk_below hb8 HY7.out
  have HT8 : v8.heap[tb]? = some (.cells zerL.toArray 46 (0, 0)) := blk_below hb8 HT7.out
  have HBL8 : Below w.heap.size w v8 := HBL7.out.trans (hb8.mono HBL7.out.size)
  have hR : R.length = m - 4 := by have h9 := hBd; simp only [List.length_append, show tz40.length = 4 from rfl] at h9; omega
  have HRS : Hid (RS w rb V7.heap.size v8 R) := by
    refine ⟨HBL8, Nat.le_of_lt hrb5, ⟨g, o + 4, c - 4, ?_, by omega, by unfold maxLen at hcx ⊢; omega, gcs, gfz, (HBL8.block g hg).trans hgb, ?_⟩, hp8, by omega⟩
    · rw [hR]; exact HY8
    · intro j x hj
      have hq := HB0.out (4 + j) x (by rw [List.getElem?_append_right (by simp [tz40]), show 4 + j - tz40.length = j from by simp [tz40]]; exact hj)
      rw [show o + 4 + j = o + (4 + j) by omega]
      simp only [World.cell?, hgb] at hq; exact hq
  clear HZ7 HY7 HT7 HBL7 hb8 hp8 HY8 HBL8
  go_wp2_with fail
  refine (HPr.out rb V7.heap.size tb v8 HRS.out HT8 (by omega) (by omega) (by omega)).mono ?_
  rintro e v9 ⟨⟨r9, rfl⟩, ⟨σ9, hr9⟩, ht9, hk9⟩
  have HBL9 : Hid (Below w.heap.size w v9) := hr9.below
  have hz9 : v9.heap[w.heap.size]? = some (.cells zerL.toArray 46 (0, 0)) := hk9.blk HZ8.out (by omega) (by omega) (by decide)
  have HZ9 : Hid (Bx v9 w.heap.size zerL) := bx_of_heap hz9
  have HXT : Hid (Bx v9 tb T) := bx_of_heap ht9
  clear HRS HZ8 HT8 hr9 ht9 hk9 hz9 HPr
  go_wp2_with (first | (refine wpList_load_mid rfl 46 _ rfl tb 0 rfl T _ HXT.out.all Tryd.underlying46 rfl (by rw [hT]; kernel_rfl) ?_) | fail)
  refine (HPut.out v9).mono ?_
  rintro e v11 ⟨va, rfl, hown, hb11⟩
  have HXT11 : Hid (Bx v11 tb T) := HXT.out.below hb11
  have HZ11 : Hid (Bx v11 w.heap.size zerL) := HZ9.out.below hb11
  have HBL11 : Hid (Below w.heap.size w v11) := HBL9.out.trans (hb11.mono HBL9.out.size)
  clear HXT HZ9 HBL9 hb11
  obtain ⟨ga, ca, rfl, hrd⟩ : ∃ ga ca, va = .slice (some ⟨ga, 0, none⟩) (m + 4) ca ∧ AtB v11 ga 0 (tz40 ++ R ++ Sm) := by
    rcases hown.2 with ⟨_, z⟩ | ⟨ga, cap, cur, rfl, _⟩
    · omega
    · exact ⟨ga, cap, rfl, fun j x hj => by have := hown.cells (g := ga) rfl j _ (cellsB_get hj); rw [addr_add0] at this; exact this⟩
  have HRA : Hid (AtB v11 ga 0 (tz40 ++ R ++ Sm)) := hrd
  have HRB : Hid (AtB v11 g o (tz40 ++ R ++ Sm)) := HL0.out.mv hg HBL11.out
  clear hown hrd
  have hlen : (tz40 ++ R ++ Sm).length = m + 4 := by rw [List.length_append, hBd, hSm]
  have HXT : Hid (Bx v11 tb T) := HXT11
  have HZ9 : Hid (Bx v11 w.heap.size zerL) := HZ11
  have HBL9 : Hid (Below w.heap.size w v11) := HBL11
  clear HXT11 HZ11 HBL11
  go_wp2_with fail
  refine (equal_any ga 0 g o (m + 4) (m + 4) ca c (tz40 ++ R ++ Sm) (tz40 ++ R ++ Sm) hlen hlen v11 HRA.out HRB.out).mono ?_
  rintro e w' ⟨rfl, hw⟩
  obtain rfl := hw.symm
  clear hw HRA HRB
  rw [show ((tz40 ++ R ++ Sm) == (tz40 ++ R ++ Sm)) = true from beq_self_eq_true _]
  have HTH : v11.there w.heap.size 0 T.toArray.size := by rw [show T.toArray.size = 25 from by simp [hT]]; exact HZ9.out.there
  go_wp2_with (first | (refine wpList_load_mid rfl 46 _ rfl tb 0 rfl T _ HXT.out.all Tryd.underlying46 rfl (by rw [hT]; kernel_rfl) ?_) | (refine wpList_store_mid rfl 46 _ _ rfl w.heap.size 0 T.toArray rfl rfl HTH (by rw [show T.toArray.size = 25 from by simp [hT]]; kernel_rfl) honeT ?_; refine gen_list (fun V => Bx V w.heap.size T ∧ Below w.heap.size w V) ⟨HZ9.out.setAll T (by rw [hT]; rfl), below_setCells (Nat.le_refl _) _ _ _ HBL9.out⟩ ?_; rintro V10 ⟨X10, B10⟩))
  exact bodyPost_ret (v := .tuple #[.agg T.toArray, .int .i64 0]) (results_cell2 rfl _ _ _ _ _ rfl rfl (run_loadVar_mid _ _ _ _ T _ X10.all Tryd.underlying46 rfl (by rw [hT]; kernel_rfl))) rfl ⟨rfl, B10⟩

end Go.Proofs.YtcgcljfdfimfgaaDoor
/- Contract: blob.Get of what Put writes of UTC. -/
namespace Go.Proofs.YtcgcljfdfimfgaaDoor
open Go.RowKit Sr
set_option linter.unusedVariables false

def utcR : List UInt8 := [3, 85, 84, 67, 0, 0, 0, 0, 0, 0, 0, 0, 0, 3, 85, 84, 67, 0, 0, 0, 0, 0, 0, 0, 0, 0]
theorem utc_split : tz40 ++ utcR = utcB := rfl
theorem num_zero : rdN (tkB 8 [0, 0, 0, 0, 0, 0, 0, 0, 0]) 0 = 0 := by decide +kernel
theorem passr_utc (w : World) : PassR utcL w utcR := by
  intro rb pb tb W hS hblk hb1 hb2 hlo
  have h3 : (rPM w rb pb).num [0, 0, 0, 0, 0, 0, 0, 0, 0] 0 = ([0], 0) := by
    show (([0, 0, 0, 0, 0, 0, 0, 0, 0] : List UInt8).drop 8, rdN (tkB 8 [0, 0, 0, 0, 0, 0, 0, 0, 0]) 0) = _
    rw [num_zero]; rfl
  refine (pass_0 (rPM w rb pb) W utcR tb zerL.toArray ⟨#[]⟩ 0 false ⟨#[]⟩ false hS hblk hb1 hb2 hlo rfl rfl rfl rfl rfl rfl
    [0, 0, 0, 0, 0, 0, 0, 0, 0, 3, 85, 84, 67, 0, 0, 0, 0, 0, 0, 0, 0, 0] [0, 0, 0, 0, 0, 0, 0, 0, 0] [0] rfl rfl h3 rfl trivial).mono ?_
  rintro e W' ⟨hv, hs, hb, hk⟩
  refine ⟨hv, ⟨_, hs⟩, ?_, hk⟩
  have hz : ((rPM w rb pb).num [0, 0, 0, 0, 0, 0, 0, 0, 0, 3, 85, 84, 67, 0, 0, 0, 0, 0, 0, 0, 0, 0] 0).2 = 0 := by
    show rdN (tkB 8 [0, 0, 0, 0, 0, 0, 0, 0, 0, 3, 85, 84, 67, 0, 0, 0, 0, 0, 0, 0, 0, 0]) 0 = 0
    decide +kernel
  rw [hz] at hb
  exact hb
theorem get_utc (g c : Nat) (w : World) (cur : Array Value) (hc : 34 ≤ c) (hcx : c ≤ maxLen) (hgb : w.heap[g]? = some (.cells cur 5 (0, 0))) (hcur : cur.toList.take 34 = cellsB utcF) :
    Calls Tryd.prog 8 #[.slice (some ⟨g, 0, none⟩) 34 c] w fun e w' => e = .returned (.tuple #[.agg utcL.toArray, .int .i64 0]) ∧ Below w.heap.size w w' := by
  have hat : AtB w g 0 utcF := by
    intro j x hj
    have hj34 : j < 34 := (List.getElem?_eq_some_iff.1 hj).1
    have h1 := cellsB_get hj
    rw [← hcur, List.getElem?_take, if_pos hj34] at h1
    rw [Nat.zero_add]
    exact cell_of hgb (by simpa using h1)
  have hF : utcF = tz40 ++ utcR ++ beB 4 (smB utcB) := rfl
  refine get_yes g 0 c 30 utcR (beB 4 (smB utcB)) rfl (beB_len _ _) (by decide) hc hcx w (Array.getElem?_eq_some_iff.1 hgb).1 (fun j x hj => hat j x ?_) (fun j x hj => ?_) (by rw [utc_split]; exact beq_self_eq_true _) cur (0, 0) hgb utcL rfl one_utc (passr_utc w) put_utc
  · rw [hF, List.getElem?_append_left (List.getElem?_eq_some_iff.1 hj).1]; exact hj
  · have := hat (30 + j) x (by rw [hF, List.getElem?_append_right (by show 30 ≤ _; omega), show 30 + j - (tz40 ++ utcR).length = j from by show 30 + j - 30 = j; omega]; exact hj)
    rw [show 0 + (30 + j) = 0 + 30 + j by omega] at this
    exact this

end Go.Proofs.YtcgcljfdfimfgaaDoor
/- Contract: what must come of fixed calls of blob (the statements' known). -/
namespace Go.Proofs.YtcgcljfdfimfgaaDoor
open Go.RowKit Sr
set_option linter.unusedVariables false

theorem sum_abc : smB [97, 98, 99] = 38600999 := by decide +kernel

set_option maxRecDepth 100000 in
set_option maxHeartbeats 4000000 in
theorem bknown_any (w : World) : Calls Tryd.prog 6 #[] w fun e w' => e = .returned (.bool true) ∧ Below w.heap.size w w' := by
  have HU : Hid (∀ w : World, Calls Tryd.prog 17 #[] w fun e w' => e = .returned (.agg utcL.toArray) ∧ Below w.heap.size w w') := utc_any
  have HP : Hid (∀ w : World, Calls Tryd.prog 4 #[.agg utcL.toArray] w fun e w' => ∃ v, e = .returned (.tuple #[v, .int .i64 0]) ∧ w'.ownsRow w.heap.size 5 1 v 34 (cellsB utcF) ∧ Below w.heap.size w w') := put_utc
  generalize hUA : utcL.toArray = UA at *
  go_enter Tryd.func6, Tryd.ntmps6
  go_wp2_with fail
  refine (HU.out _).mono ?_
  rintro e v1 ⟨rfl, hb1⟩
  go_wp2_with fail
  refine (HP.out _).mono ?_
  rintro e v2 ⟨v, rfl, hown, hb2⟩
  have HB2 : Hid (Below w.heap.size w v2) := hb1.trans (hb2.mono hb1.size)
  obtain ⟨g, c, cur, rfl, hg, hc, hcx, hcur⟩ : ∃ g c cur, v = .slice (some ⟨g, 0, none⟩) 34 c ∧ v2.heap[g]? = some (.cells cur 5 (0, 0)) ∧ 34 ≤ c ∧ c ≤ maxLen ∧ cur.toList.take 34 = cellsB utcF := by
    rcases hown.2 with ⟨_, z⟩ | ⟨g, cap, cur, rfl, _, hg, h1, h2, _, h3⟩
    · omega
    · exact ⟨g, cap, cur, rfl, hg, h1, h2, h3⟩
  have HG := get_utc g c v2 cur hc hcx hg hcur
  rw [hUA] at HG
  clear hown hb1 hb2 hcur hg HU HP hc hcx
  go_wp2_with fail
  refine HG.mono ?_
  rintro e v3 ⟨rfl, hb3⟩
  have HB3 : Hid (Below w.heap.size w v3) := HB2.out.trans (hb3.mono HB2.out.size)
  clear HB2 hb3 HG
  obtain ⟨tb, htb⟩ : ∃ tb, v3.heap.size = tb := ⟨_, rfl⟩
  have X1 : Hid (Bx (v3.alloc (.cells zerL.toArray 46)) tb zerL) := Bx.newAt v3 zerL 46 tb htb
  have B1 : Hid (Below w.heap.size w (v3.alloc (.cells zerL.toArray 46))) := HB3.out.alloc HB3.out.size _
  have hle : w.heap.size ≤ tb := by have := HB3.out.size; omega
  go_upto_region 3 with (refine wpList_store_mid rfl 46 _ _ rfl tb 0 UA rfl rfl (by rw [← hUA]; exact X1.out.there) (by rw [← hUA]; kernel_rfl) (by rw [← hUA]; exact one_utc) ?_; refine gen_list (fun V => Bx V tb utcL ∧ Below w.heap.size w V) ⟨by rw [← hUA]; exact X1.out.setAll utcL rfl, below_setCells hle _ _ _ B1.out⟩ ?_; clear X1 B1 HB3; rintro V ⟨XV, BV⟩)
  have hcv : (convert 35 35 (.slice (some ⟨V.heap.size, 0, none⟩) 3 3)).run Tryd.prog (V.alloc (.cells #[.int .u8 97, .int .u8 98, .int .u8 99] 5)) = .ok (.slice (some ⟨V.heap.size, 0, none⟩) 3 3) (V.alloc (.cells #[.int .u8 97, .int .u8 98, .int .u8 99] 5 (3, 4))) := Lib.run_convert_bytes_const V 35 5 #[.int .u8 97, .int .u8 98, .int .u8 99] 3 3 Tryd.underlying35 Tryd.underlying5
  obtain ⟨V3, hV3⟩ : ∃ V3, V.alloc (.cells #[.int .u8 97, .int .u8 98, .int .u8 99] 5 (3, 4)) = V3 := ⟨_, rfl⟩
  rw [hV3] at hcv
  have hb4 : Below V.heap.size V V3 := by rw [← hV3]; exact (Below.refl _ V).alloc (Nat.le_refl _) _
  have hh : V3.heap[V.heap.size]? = some (.cells (cellsB [97, 98, 99]).toArray 5 (3, 4)) := by rw [← hV3]; exact World.alloc_heap_new V _
  have HSum := sum_any (some ⟨V.heap.size, 0, none⟩) [97, 98, 99] 3 3 rfl (by decide) V3 (fun j x hj => ⟨_, rfl, by
    rw [addr_add0, Nat.zero_add]
    exact cell_of hh (by have := cellsB_get hj; rw [List.getElem?_toArray]; exact this)⟩)
  rw [sum_abc] at HSum
  have XV3 := XV.below hb4
  have c0 := XV3.c 0 rfl
  have c4 := XV3.c 4 rfl
  have HBF : Hid (Below w.heap.size w V3) := BV.trans (hb4.mono BV.size)
  clear hb4 hh XV XV3 BV hV3
  go_wp2_with fail
  refine HSum.mono ?_
  rintro e w' ⟨rfl, hw⟩
  obtain rfl := hw.symm
  clear hw HSum hcv
  go_wp2_with fail
  exact bodyPost_ret (v := .bool true) (by simp [results, Tryd.results6, go_sem]) rfl ⟨rfl, HBF.out⟩

end Go.Proofs.YtcgcljfdfimfgaaDoor
/- BlobTurned over its callees. -/
namespace Go.Proofs.YtcgcljfdfimfgaaDoor
open Go.RowKit Sr
set_option linter.unusedVariables false

/-- a byte with one bit turned is another one. -/
theorem xor_ne : ∀ (x : Fin 256) (k : Fin 8), 0 ≤ bits .xor .u8 (x.val : Int) (2 ^ k.val % 256) ∧ bits .xor .u8 (x.val : Int) (2 ^ k.val % 256) < 256 ∧ bits .xor .u8 (x.val : Int) (2 ^ k.val % 256) ≠ (x.val : Int) := by decide +kernel
theorem AtB.setB {W : World} {g q : Nat} {L : List UInt8} {x y : UInt8} (h : AtB W g 0 L) (hx : L[q]? = some x) : AtB (W.setCell ⟨g, q, none⟩ (.int .u8 (y.toNat : Int))) g 0 (L.set q y) := fun j z hz => by
  have hq := h q x hx
  rw [Nat.zero_add] at hq ⊢
  by_cases e : q = j
  · subst e
    rw [List.getElem?_set_self (List.getElem?_eq_some_iff.1 hx).1] at hz
    cases hz
    exact World.cell?_setCell_same _ _ _ hq
  · rw [List.getElem?_set_ne e] at hz
    have := h j z hz
    rw [Nat.zero_add] at this
    exact (World.cell?_setCell_other _ _ _ _ (fun k => e (by cases k; rfl))).trans this
theorem AtB.left {W : World} {g : Nat} {A B : List UInt8} (h : AtB W g 0 (A ++ B)) : AtB W g 0 A := fun j z hz => h j z (by rw [List.getElem?_append_left (List.getElem?_eq_some_iff.1 hz).1]; exact hz)
theorem AtB.right {W : World} {g m : Nat} {A B : List UInt8} (h : AtB W g 0 (A ++ B)) (hm : A.length = m) : AtB W g (0 + m) B := fun j z hz => by
  have := h (m + j) z (by rw [List.getElem?_append_right (by omega), hm, show m + j - m = j by omega]; exact hz)
  rwa [← Nat.add_assoc] at this
/-- Get of a table's bytes with one bit turned. -/
theorem get_turned (g c n q r : Nat) (R : List UInt8) (x : UInt8) (hn : (tz40 ++ R).length = n) (hc : n + 4 ≤ c) (hcx : c ≤ maxLen) (W : World) (hg : g < W.heap.size) (hA : AtB W g 0 ((tz40 ++ R) ++ beB 4 (smB (tz40 ++ R)))) (hx : ((tz40 ++ R) ++ beB 4 (smB (tz40 ++ R)))[q]? = some x) (hr : r < 8) :
    ∃ E : Int, (E = 22 ∨ E = 21 ∧ q < 4) ∧ ∀ V : World, V = W.setCell ⟨g, q, none⟩ (.int .u8 (bits .xor .u8 (x.toNat : Int) (2 ^ r % 256))) → Calls Tryd.prog 8 #[.slice (some ⟨g, 0, none⟩) (n + 4) c] V fun e w' => e = .returned (.tuple #[.agg zerL.toArray, .int .i64 E]) ∧ Below V.heap.size V w' := by
  obtain ⟨z, hz⟩ : ∃ z : Int, bits .xor .u8 (x.toNat : Int) (2 ^ r % 256) = z := ⟨_, rfl⟩
  have h3 := xor_ne ⟨x.toNat, x.toNat_lt⟩ ⟨r, hr⟩
  simp only [hz] at h3
  obtain ⟨z0, z1, z2⟩ := h3
  have hy : ((UInt8.ofNat z.toNat).toNat : Int) = z := by rw [u8_of]; omega
  obtain ⟨y, hyy⟩ : ∃ y, UInt8.ofNat z.toNat = y := ⟨_, rfl⟩
  rw [hyy] at hy
  have hne : y ≠ x := fun e => z2 (by rw [← e]; exact hy.symm)
  rw [hz, ← hy]
  have hA2 := AtB.setB (y := y) hA hx
  have h4 : 4 ≤ n := by rw [← hn, List.length_append]; show 4 ≤ 4 + _; omega
  rcases turned R q x y hx hne with ⟨hq, Bd, Sm, e, h1, h2, hp⟩ | ⟨R', Sm, e, h1, h2, hp⟩
  · refine ⟨21, .inr ⟨rfl, hq⟩, ?_⟩
    rintro V rfl
    rw [e] at hA2
    exact get_form g 0 c n Bd Sm (h1.trans hn) h2 h4 hc hcx _ (by simpa using hg) hA2.left (hA2.right (h1.trans hn)) hp
  · refine ⟨22, .inl rfl, ?_⟩
    rintro V rfl
    rw [e] at hA2
    exact get_sum g 0 c n R' Sm (h1.trans hn) h2 h4 hc hcx _ (by simpa using hg) hA2.left (hA2.right (h1.trans hn)) hp

set_option maxRecDepth 100000 in
set_option maxHeartbeats 16000000 in
theorem bt_run (P0 : World → Prop) (Z : List Value) (hZ : Z.length = 25) (at_ : Int) 
    (PT : Hid (∀ w : World, P0 w → Calls Tryd.prog 5 #[.agg Z.toArray] w fun e w' => ∃ T : List Value, e = .returned (.agg T.toArray) ∧ T.length = 25 ∧ Below w.heap.size w w' ∧ Calls Tryd.prog 4 #[.agg T.toArray] w' fun e2 w2 => Below w'.heap.size w' w2 ∧ (e2 = .returned (.tuple #[.slice none 0 0, .int .i64 1]) ∨ ∃ (R : List UInt8) (v : Value), (tz40 ++ R).length ≤ 900000 ∧ e2 = .returned (.tuple #[v, .int .i64 0]) ∧ w2.ownsRow w'.heap.size 5 1 v ((tz40 ++ R).length + 4) (cellsB ((tz40 ++ R) ++ beB 4 (smB (tz40 ++ R)))))))
    (w : World) (hL : Hid (P0 (w.alloc (.cells Z.toArray 34)))) :
    Calls Tryd.prog 3 #[.agg Z.toArray, .int .i64 at_] w fun e w' => e = .returned (.bool true) ∧ Below w.heap.size w w' := by
  have KN : Hid (∀ w : World, Calls Tryd.prog 6 #[] w fun e w' => e = .returned (.bool true) ∧ Below w.heap.size w w') := bknown_any
  have X1 : Hid (Bx (w.alloc (.cells Z.toArray 34)) w.heap.size Z) := Bx.new w Z 34
  have B1 : Hid (Below w.heap.size w (w.alloc (.cells Z.toArray 34))) := (Below.refl _ _).alloc (Nat.le_refl _) _
  go_enter Tryd.func3, Tryd.ntmps3
  generalize hZA : Z.toArray = ZA at *
  go_upto_region 1 with fail
  refine gen_code (fun V => P0 V ∧ Bx V w.heap.size Z ∧ Below w.heap.size w V) ⟨hL.out, X1.out, B1.out⟩ ?_
  clear X1 B1 hL
  rintro W0 ⟨HP, HX, HB⟩
  have HX : Hid (Bx W0 w.heap.size Z) := HX
  have HB : Hid (Below w.heap.size w W0) := HB
  go_wp2_with (first | (refine wpList_load_mid rfl 34 _ rfl w.heap.size 0 rfl Z _ HX.out.all Tryd.underlying34 rfl (by rw [hZ]; kernel_rfl) ?_; rw [hZA]) | fail)
  refine (PT.out _ HP).mono ?_
  rintro e W1 ⟨T, rfl, hTl, hb1, hput⟩
  have HB1 : Hid (Below w.heap.size w W1) := HB.out.trans (hb1.mono HB.out.size)
  have HPT : Hid (Calls Tryd.prog 4 #[.agg T.toArray] W1 fun e2 w2 => Below W1.heap.size W1 w2 ∧ (e2 = .returned (.tuple #[.slice none 0 0, .int .i64 1]) ∨ ∃ (R : List UInt8) (v : Value), (tz40 ++ R).length ≤ 900000 ∧ e2 = .returned (.tuple #[v, .int .i64 0]) ∧ w2.ownsRow W1.heap.size 5 1 v ((tz40 ++ R).length + 4) (cellsB ((tz40 ++ R) ++ beB 4 (smB (tz40 ++ R)))))) := hput
  clear hput hb1 HB HX HP PT
  generalize hTA : T.toArray = TA at *
  go_wp2_with fail
  refine HPT.out.mono ?_
  rintro e W2 ⟨hb2, h | ⟨R, v, hR, h, hown⟩⟩
  · subst h
    have HB2 : Hid (Below w.heap.size w W2) := HB1.out.trans (hb2.mono HB1.out.size)
    clear HPT HB1 hb2
    go_wp2_with fail
    refine (KN.out _).mono ?_
    rintro e W3 ⟨rfl, hb3⟩
    have HB3 : Hid (Below w.heap.size w W3) := HB2.out.trans (hb3.mono HB2.out.size)
    clear HB2 hb3
    go_wp2_with fail
    go_ret
    exact ⟨rfl, HB3.out⟩
  · subst h
    have HB2 : Hid (Below w.heap.size w W2) := HB1.out.trans (hb2.mono HB1.out.size)
    have hw1 := HB1.out.size
    clear HPT HB1 hb2
    obtain ⟨n, hn⟩ : ∃ n, (tz40 ++ R).length = n := ⟨_, rfl⟩
    have hn4 : 4 ≤ n := by rw [← hn, List.length_append]; show 4 ≤ 4 + _; omega
    have hF : ((tz40 ++ R) ++ beB 4 (smB (tz40 ++ R))).length = n + 4 := by rw [List.length_append, beB_len, hn]
    have hRn : n ≤ 900000 := by omega
    rw [hn] at hown
    obtain ⟨g, c, cur, rfl, hgb, hg, hc, hcx, hcz, hcur⟩ : ∃ g c cur, v = .slice (some ⟨g, 0, none⟩) (n + 4) c ∧ W1.heap.size ≤ g ∧ W2.heap[g]? = some (.cells cur 5 (0, 0)) ∧ n + 4 ≤ c ∧ c ≤ maxLen ∧ cur.size = c * 1 ∧ cur.toList.take ((n + 4) * 1) = cellsB ((tz40 ++ R) ++ beB 4 (smB (tz40 ++ R))) := by
      rcases hown.2 with ⟨_, z⟩ | ⟨g, cap, cur, rfl, h0, hg, h1, h2, h3, h4⟩
      · omega
      · exact ⟨g, cap, cur, rfl, h0, hg, h1, h2, h3, h4⟩
    clear hown
    obtain ⟨N, hN⟩ : ∃ N, n + 4 = N := ⟨_, rfl⟩
    rw [hN] at hF hc hcur ⊢
    obtain ⟨k, hk0, hk1, CT0⟩ := cnt_any at_ (8 * (N : Int)) (by omega) (by omega)
    have CT : Hid (∀ w : World, Calls Tryd.prog 7 #[.int .i64 at_, .int .i64 (8 * (N : Int))] w fun r' w' => r' = .returned (.int .i64 k) ∧ w' = w) := CT0
    clear CT0
    obtain ⟨q, hq⟩ : ∃ q : Nat, k.toNat / 8 = q := ⟨_, rfl⟩
    obtain ⟨r, hr⟩ : ∃ r : Nat, k.toNat % 8 = r := ⟨_, rfl⟩
    have hqN : q < N := by omega
    have hkq : k.tdiv 8 = (q : Int) := by rw [Int.tdiv_eq_ediv_of_nonneg hk0]; omega
    have hkr : k.tmod 8 = (r : Int) := by rw [Int.tmod_eq_emod_of_nonneg hk0]; omega
    have hr8 : r < 8 := by omega
    have w1 : IntKind.i64.wrap (8 * (N : Int)) = 8 * (N : Int) := by rw [IntKind.wrap_i64]; omega
    have w2 : IntKind.i64.wrap (q : Int) = (q : Int) := by rw [IntKind.wrap_i64]; omega
    have w3 : ¬ (N : Int) < 8 := by omega
    have w4 : (0 : Int) ≤ (q : Int) := by omega
    have w5 : (q : Int) < (N : Int) := by omega
    obtain ⟨x, hx⟩ : ∃ x, ((tz40 ++ R) ++ beB 4 (smB (tz40 ++ R)))[q]? = some x := ⟨_, List.getElem?_eq_getElem (by omega)⟩
    have hxc : cur[q]? = some (.int .u8 (x.toNat : Int)) := by
      have h9 := cellsB_get hx
      rw [← hcur, List.getElem?_take, if_pos (by omega)] at h9
      simpa using h9
    have hcell : W2.cell? ⟨g, q, none⟩ = some (.int .u8 (x.toNat : Int)) := by simp [World.cell?, hg, hxc]
    have hfz : W2.frozen? ⟨g, q, none⟩ = false := by simp [World.frozen?, hg]
    have hA : AtB W2 g 0 ((tz40 ++ R) ++ beB 4 (smB (tz40 ++ R))) := fun j z hz => by
      have h9 := cellsB_get hz
      have hj := (List.getElem?_eq_some_iff.1 hz).1
      rw [← hcur, List.getElem?_take, if_pos (by omega)] at h9
      rw [Nat.zero_add]
      simpa [World.cell?, hg] using h9
    obtain ⟨E, hE, hGT⟩ := get_turned g c n q r R x hn (by omega) hcx W2 (Array.getElem?_eq_some_iff.1 hg).1 hA hx hr8
    rw [hN] at hGT
    have HGT : Hid (∀ V : World, V = W2.setCell ⟨g, q, none⟩ (.int .u8 (bits .xor .u8 (x.toNat : Int) (2 ^ r % 256))) → Calls Tryd.prog 8 #[.slice (some ⟨g, 0, none⟩) N c] V fun e w' => e = .returned (.tuple #[.agg zerL.toArray, .int .i64 E]) ∧ Below V.heap.size V w') := hGT
    have hk32 : q < 4 → k < 32 := by omega
    have hwg : w.heap.size ≤ g := by omega
    clear hg hcur hx hxc hF hn hR hcz hA hGT hgb
    go_wp2_with fail
    refine (CT.out _).mono ?_
    rintro e W3 ⟨rfl, rfl⟩
    go_wp2_with fail
    refine (HGT.out _ rfl).mono ?_
    rintro e W4 ⟨rfl, hb4⟩
    have HB4 : Hid (Below w.heap.size w W4) := by
      have h0 := HB2.out.setCell (p := ⟨g, q, none⟩) hwg (.int .u8 (bits .xor .u8 (x.toNat : Int) (2 ^ r % 256)))
      exact h0.trans (hb4.mono h0.size)
    clear HB2 hb4 HGT hcell CT hfz
    generalize hUA : zerL.toArray = UA at *
    obtain ⟨tb, htb⟩ : ∃ tb, W4.heap.size = tb := ⟨_, rfl⟩
    have X1 : Hid (Bx (W4.alloc (.cells zerL.toArray 46)) tb zerL) := Bx.newAt W4 zerL 46 tb htb
    have B1 : Hid (Below w.heap.size w (W4.alloc (.cells zerL.toArray 46))) := HB4.out.alloc HB4.out.size _
    have hle : w.heap.size ≤ tb := by have := HB4.out.size; omega
    go_upto_region 9 with (refine wpList_store_mid rfl 46 _ _ rfl tb 0 UA rfl rfl (by rw [← hUA]; exact X1.out.there) (by rw [← hUA]; kernel_rfl) (by rw [← hUA]; exact one_zer) ?_; refine gen_list (fun V => Below w.heap.size w V) (below_setCells hle _ _ _ B1.out) ?_; clear X1 B1 HB4; intro V BV)
    have BV : Hid (Below w.heap.size w V) := BV
    rcases hE with rfl | ⟨rfl, hq4⟩
    · go_wp2_with fail
      refine (KN.out _).mono ?_
      rintro e W5 ⟨rfl, hb5⟩
      have HB5 : Hid (Below w.heap.size w W5) := BV.out.trans (hb5.mono BV.out.size)
      clear BV hb5
      go_wp2_with fail
      go_ret
      exact ⟨rfl, HB5.out⟩
    · have hk3 := hk32 hq4
      go_wp2_with fail
      refine (KN.out _).mono ?_
      rintro e W5 ⟨rfl, hb5⟩
      have HB5 : Hid (Below w.heap.size w W5) := BV.out.trans (hb5.mono BV.out.size)
      clear BV hb5
      go_wp2_with fail
      go_ret
      exact ⟨rfl, HB5.out⟩

end Go.Proofs.YtcgcljfdfimfgaaDoor
