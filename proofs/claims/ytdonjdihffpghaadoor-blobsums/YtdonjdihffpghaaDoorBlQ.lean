/- Contract: blob.Get of what is read and written again. -/
import Derived.Test.YtdonjdihffpghaaDoorBlP
namespace Go.Proofs.YtdonjdihffpghaaDoor
open Go.RowKit Sr
set_option linter.unusedVariables false

theorem zer_len : zerL.length = 25 := rfl
/-- what pass does with a new table, as Get calls it. -/
def PassR (T : List Value) (w : World) (R : List UInt8) : Prop := ∀ (rb pb tb : Nat) (W : World), RS w rb pb W R → W.heap[tb]? = some (.cells zerL.toArray 52 (0, 0)) → tb ≠ rb → tb ≠ pb → w.heap.size ≤ tb →
  Calls Tryd.prog 18 #[.pointer (some ⟨tb, 0, none⟩), .agg (rPM w rb pb).agg] W fun e W' => (∃ v, e = .returned v) ∧ (∃ σ, RS w rb pb W' σ) ∧ W'.heap[tb]? = some (.cells T.toArray 52 (0, 0)) ∧ KT2 rb tb W W'

set_option maxRecDepth 100000 in
set_option maxHeartbeats 4000000 in
theorem get_yes (g o c m : Nat) (R Sm : List UInt8) (hBd : (tz40 ++ R).length = m) (hSm : Sm.length = 4) (hm4 : 4 ≤ m) (hc : m + 4 ≤ c) (hcx : c ≤ maxLen) (w : World) (hg : g < w.heap.size) (HB1 : Hid (AtB w g o (tz40 ++ R))) (HS1 : Hid (AtB w g (o + m) Sm)) (hsum : (Sm == beB 4 (smB (tz40 ++ R))) = true) (gcs : Array Value) (gfz : Nat × Nat) (hgb : w.heap[g]? = some (.cells gcs 5 gfz)) (T : List Value) (hT : T.length = 25) (honeT : T.toArray.all (·.oneCell') = true)
    (HPr : Hid (PassR T w R)) (HPut : Hid (∀ w : World, Calls Tryd.prog 10 #[.agg T.toArray] w fun e w' => ∃ v, e = .returned (.tuple #[v, .int .i64 0]) ∧ w'.ownsRow w.heap.size 5 1 v (m + 4) (cellsB (tz40 ++ R ++ Sm)) ∧ Below w.heap.size w w')) :
    Calls Tryd.prog 13 #[.slice (some ⟨g, o, none⟩) (m + 4) c] w fun e w' => e = .returned (.tuple #[.agg T.toArray, .int .i64 0]) ∧ Below w.heap.size w w' := by
  have HB0 : Hid (AtB w g o (tz40 ++ R)) := HB1
  have HL0 : Hid (AtB w g o (tz40 ++ R ++ Sm)) := by
    intro j x hj
    by_cases hlt : j < m
    · rw [List.getElem?_append_left (by omega)] at hj; exact HB1.out j x hj
    · rw [List.getElem?_append_right (by omega), hBd] at hj
      have := HS1.out (j - m) x hj
      rwa [show o + m + (j - m) = o + j by omega] at this
  have hcm : c ≤ 9223372036854775807 := hcx
  have hwm : IntKind.i64.wrap (m : Int) = (m : Int) := by rw [IntKind.wrap_i64]; omega
  have X1 : Hid ((w.alloc (.cells zerL.toArray 52)).heap[w.heap.size]? = some (.cells zerL.toArray 52 (0, 0))) := World.alloc_heap_new w _
  have B1 : Hid (Below w.heap.size w (w.alloc (.cells zerL.toArray 52))) := (Below.refl _ _).alloc (Nat.le_refl _) _
  go_enter Tryd.func13, Tryd.ntmps13
  go_upto_region 1 with fail
  refine gen_code (fun V => V.heap[w.heap.size]? = some (.cells zerL.toArray 52 (0, 0)) ∧ Below w.heap.size w V) ⟨X1.out, B1.out⟩ ?_
  clear X1 B1
  rintro V ⟨XV, BV⟩
  have HX : Hid (V.heap[w.heap.size]? = some (.cells zerL.toArray 52 (0, 0))) := XV
  have HB : Hid (Below w.heap.size w V) := BV
  clear XV BV
  go_wp2_with fail
  refine wp_region_held_drew (S := fun _ => True) (by kernel_rfl) trivial (fun hHeld => ?_)
  refine wpAnyH_take (i := 0) (v := ?_) (oi := { dst := some 15, op := _, type := _, pos := _, after := _, guard := none }) rfl (by kernel_rfl) (by kernel_rfl) (by kernel_rfl) (fun _ _ _ h => h) (Or.inl ⟨by kernel_rfl, ?_⟩) (by assumption) ?_
  case refine_2 => (intro w9 hSw; clear hSw; (go_simp); (try omega); (try (rw [if_pos (by omega), if_neg (by omega)])); try with_reducible rfl)
  simp only [Act.put, List.setIfInBounds_toArray, List.set_cons_zero, List.set_cons_succ]
  refine wpAnyH_take (i := 1) (v := ?_) (oi := { dst := some 16, op := _, type := _, pos := _, after := _, guard := none }) rfl (by kernel_rfl) (by kernel_rfl) (by kernel_rfl) (fun _ _ _ h => h) (Or.inl ⟨by kernel_rfl, ?_⟩) (by assumption) ?_
  case refine_2 => (intro w9 hSw; clear hSw; (go_simp); (try omega); (try (rw [if_pos (by omega), if_neg (by omega)])); try with_reducible rfl)
  simp only [Act.put, List.setIfInBounds_toArray, List.set_cons_zero, List.set_cons_succ]
  refine wpAnyH_take (i := 2) (v := ?_) (oi := { dst := some 17, op := _, type := _, pos := _, after := _, guard := none }) rfl (by kernel_rfl) (by kernel_rfl) (by kernel_rfl) (fun _ _ _ h => h) (Or.inl ⟨by kernel_rfl, ?_⟩) (by assumption) ?_
  case refine_2 => (intro w9 hSw; clear hSw; (go_simp); (try omega); (try (rw [if_pos (by omega), if_neg (by omega)])); try with_reducible rfl)
  simp only [Act.put, List.setIfInBounds_toArray, List.set_cons_zero, List.set_cons_succ]
  refine wpAnyH_take (i := 3) (v := ?_) (oi := { dst := some 18, op := _, type := _, pos := _, after := _, guard := none }) rfl (by kernel_rfl) (by kernel_rfl) (by kernel_rfl) (fun _ _ _ h => h) (Or.inl ⟨by kernel_rfl, ?_⟩) (by assumption) ?_
  case refine_2 => (intro w9 hSw; clear hSw; (go_simp); (try omega); (try (rw [if_pos (by omega), if_neg (by omega)])); try with_reducible rfl)
  simp only [Act.put, List.setIfInBounds_toArray, List.set_cons_zero, List.set_cons_succ]
  refine wpAnyH_take (i := 4) (v := .slice (some ⟨g, o, none⟩) m c) (oi := { dst := some 19, op := _, type := _, pos := _, after := _, guard := none }) rfl (by kernel_rfl) (by kernel_rfl) (by kernel_rfl) (fun _ _ _ h => h) (Or.inl ⟨by kernel_rfl, ?_⟩) (by assumption) ?_
  case refine_1 => (intro w9 hSw; clear hSw; (go_simp); (try omega); (try (rw [if_pos (by omega), if_neg (by omega)])); try with_reducible rfl)
  simp only [Act.put, List.setIfInBounds_toArray, List.set_cons_zero, List.set_cons_succ]
  refine wpAnyH_take (i := 5) (v := ?_) (oi := { dst := some 20, op := _, type := _, pos := _, after := _, guard := none }) rfl (by kernel_rfl) (by kernel_rfl) (by kernel_rfl) (fun _ _ _ h => h) (Or.inl ⟨by kernel_rfl, ?_⟩) (by assumption) ?_
  case refine_2 => (intro w9 hSw; clear hSw; (go_simp); (try omega); (try (rw [if_pos (by omega), if_neg (by omega)])); try with_reducible rfl)
  simp only [Act.put, List.setIfInBounds_toArray, List.set_cons_zero, List.set_cons_succ]
  refine wpAnyH_take (i := 6) (v := ?_) (oi := { dst := some 21, op := _, type := _, pos := _, after := _, guard := none }) rfl (by kernel_rfl) (by kernel_rfl) (by kernel_rfl) (fun _ _ _ h => h) (Or.inl ⟨by kernel_rfl, ?_⟩) (by assumption) ?_
  case refine_2 => (intro w9 hSw; clear hSw; (go_simp); (try omega); (try (rw [if_pos (by omega), if_neg (by omega)])); try with_reducible rfl)
  simp only [Act.put, List.setIfInBounds_toArray, List.set_cons_zero, List.set_cons_succ]
  refine wpAnyH_take (i := 7) (v := ?_) (oi := { dst := some 22, op := _, type := _, pos := _, after := _, guard := none }) rfl (by kernel_rfl) (by kernel_rfl) (by kernel_rfl) (fun _ _ _ h => h) (Or.inl ⟨by kernel_rfl, ?_⟩) (by assumption) ?_
  case refine_2 => (intro w9 hSw; clear hSw; (go_simp); (try omega); (try (rw [if_pos (by omega), if_neg (by omega)])); try with_reducible rfl)
  simp only [Act.put, List.setIfInBounds_toArray, List.set_cons_zero, List.set_cons_succ]
  refine wpAnyH_take (i := 8) (v := ?_) (oi := { dst := some 23, op := _, type := _, pos := _, after := _, guard := none }) rfl (by kernel_rfl) (by kernel_rfl) (by kernel_rfl) (fun _ _ _ h => h) (Or.inl ⟨by kernel_rfl, ?_⟩) (by assumption) ?_
  case refine_2 => (intro w9 hSw; clear hSw; (go_simp); (try omega); (try (rw [if_pos (by omega), if_neg (by omega)])); try with_reducible rfl)
  simp only [Act.put, List.setIfInBounds_toArray, List.set_cons_zero, List.set_cons_succ]
  refine wpAnyH_take (i := 9) (v := .slice (some ⟨g, o + m, none⟩) 4 (c - m)) (oi := { dst := some 24, op := _, type := _, pos := _, after := _, guard := none }) rfl (by kernel_rfl) (by kernel_rfl) (by kernel_rfl) (fun _ _ _ h => h) (Or.inl ⟨by kernel_rfl, ?_⟩) (by assumption) ?_
  case refine_1 => (intro w9 hSw; clear hSw; (go_simp); (try omega); (try (rw [if_pos (by omega), if_neg (by omega)])); try with_reducible rfl)
  simp only [Act.put, List.setIfInBounds_toArray, List.set_cons_zero, List.set_cons_succ]
  refine wpAnyH_take (i := 10) (v := ?_) (oi := { dst := some 4, op := _, type := _, pos := _, after := _, guard := none }) rfl (by kernel_rfl) (by kernel_rfl) (by kernel_rfl) (fun _ _ _ h => h) (Or.inl ⟨by kernel_rfl, ?_⟩) (by assumption) ?_
  case refine_2 => (intro w9 hSw; clear hSw; (go_simp); (try omega); (try (rw [if_pos (by omega), if_neg (by omega)])); try with_reducible rfl)
  simp only [Act.put, List.setIfInBounds_toArray, List.set_cons_zero, List.set_cons_succ]
  refine wpAnyH_take (i := 11) (v := ?_) (oi := { dst := some 5, op := _, type := _, pos := _, after := _, guard := none }) rfl (by kernel_rfl) (by kernel_rfl) (by kernel_rfl) (fun _ _ _ h => h) (Or.inl ⟨by kernel_rfl, ?_⟩) (by assumption) ?_
  case refine_2 => (intro w9 hSw; clear hSw; (go_simp); (try omega); (try (rw [if_pos (by omega), if_neg (by omega)])); try with_reducible rfl)
  simp only [Act.put, List.setIfInBounds_toArray, List.set_cons_zero, List.set_cons_succ]
  refine wpAnyH_done (by kernel_rfl) ?_ _
  refine gen_then (fun V => V.heap[w.heap.size]? = some (.cells zerL.toArray 52 (0, 0)) ∧ Below w.heap.size w V) ⟨HX.out, HB.out.trans ((below_drew1 V).mono HB.out.size)⟩ ?_
  clear HX HB hHeld
  rintro V2 ⟨XV, BV⟩
  have HX : Hid (V2.heap[w.heap.size]? = some (.cells zerL.toArray 52 (0, 0))) := XV
  have HB : Hid (Below w.heap.size w V2) := BV
  have hVg : g < V2.heap.size := Nat.lt_of_lt_of_le hg BV.size
  have HB2 : Hid (AtB V2 g o (tz40 ++ R)) := HB1.out.mv hg (BV.mono (Nat.le_refl _))
  have HS2 : Hid (AtB V2 g (o + m) Sm) := HS1.out.mv hg (BV.mono (Nat.le_refl _))
  clear XV BV HB1 HS1
  have hcv : (convert 22 22 (.slice (some ⟨V2.heap.size, 0, none⟩) 4 4)).run Tryd.prog (V2.alloc (.cells #[.int .u8 84, .int .u8 90, .int .u8 52, .int .u8 48] 5)) = .ok (.slice (some ⟨V2.heap.size, 0, none⟩) 4 4) (V2.alloc (.cells #[.int .u8 84, .int .u8 90, .int .u8 52, .int .u8 48] 5 (4, 5))) := Lib.run_convert_bytes_const V2 22 5 #[.int .u8 84, .int .u8 90, .int .u8 52, .int .u8 48] 4 4 Tryd.underlying22 Tryd.underlying5
  obtain ⟨V3, hV3⟩ : ∃ V3, V2.alloc (.cells #[.int .u8 84, .int .u8 90, .int .u8 52, .int .u8 48] 5 (4, 5)) = V3 := ⟨_, rfl⟩
  rw [hV3] at hcv
  have hb3 : Below V2.heap.size V2 V3 := by rw [← hV3]; exact (Below.refl _ V2).alloc (Nat.le_refl _) _
  have HX3 : Hid (V3.heap[w.heap.size]? = some (.cells zerL.toArray 52 (0, 0))) := blk_below hb3 HX.out
  have HBL3 : Hid (Below w.heap.size w V3) := HB.out.trans (hb3.mono HB.out.size)
  have HB3 : Hid (AtB V3 g o (tz40 ++ R)) := HB2.out.mv hVg hb3
  have HS3 : Hid (AtB V3 g (o + m) Sm) := HS2.out.mv hVg hb3
  have HT3 : Hid (AtB V3 V2.heap.size 0 tz40) := AtB.of_bx ⟨by rw [← hV3]; simp, fun i v hv => by
    have hh : V3.heap[V2.heap.size]? = some (.cells (cellsB tz40).toArray 5 (4, 5)) := by rw [← hV3]; exact World.alloc_heap_new V2 _
    have hi : i < 4 := (List.getElem?_eq_some_iff.1 hv).1
    exact ⟨cell_of hh (by simpa using hv), by simp [World.frozen?, hh]; omega⟩⟩
  have hVg3 : g < V3.heap.size := Nat.lt_of_lt_of_le hVg hb3.size
  clear HX HB HB2 HS2 hb3 hV3 hVg
  go_wp2_with fail
  refine (cutp_yes g o m c V2.heap.size 4 R hBd (by omega) (by omega) V3 HB3.out HT3.out).mono ?_
  rintro e w' ⟨rfl, hw⟩
  obtain rfl := hw.symm
  clear hw hcv HT3
  have HZ3 : Hid (V3.heap[w.heap.size]? = some (.cells zerL.toArray 52 (0, 0))) := HX3
  have hzl : w.heap.size < V3.heap.size := (Array.getElem?_eq_some_iff.1 HZ3.out).1
  go_upto_region 7 with fail
  refine gen_code (fun V => V.heap[w.heap.size]? = some (.cells zerL.toArray 52 (0, 0)) ∧ Below V3.heap.size V3 V ∧ V.heap[V3.heap.size]? = some (.cells #[.slice (some ⟨g, o + 4, none⟩) (m - 4) (c - 4)] 22 (0, 0))) ⟨(Below.heap_alloc _ _ _ hzl).trans HZ3.out, (Below.refl _ V3).alloc (Nat.le_refl _) _, World.alloc_heap_new V3 _⟩ ?_
  rintro V5 ⟨Z5, B5, Y5⟩
  have HZ5 : Hid (V5.heap[w.heap.size]? = some (.cells zerL.toArray 52 (0, 0))) := Z5
  have HY5 : Hid (V5.heap[V3.heap.size]? = some (.cells #[.slice (some ⟨g, o + 4, none⟩) (m - 4) (c - 4)] 22 (0, 0))) := Y5
  have HBL5 : Hid (Below w.heap.size w V5) := HBL3.out.trans (B5.mono HBL3.out.size)
  have HB5 : Hid (AtB V5 g o (tz40 ++ R)) := HB3.out.mv hVg3 B5
  have HS5 : Hid (AtB V5 g (o + m) Sm) := HS3.out.mv hVg3 B5
  have hVg5 : g < V5.heap.size := Nat.lt_of_lt_of_le hVg3 B5.size
  have hrb5 : w.heap.size < V3.heap.size := hzl
  obtain ⟨rb, hrb⟩ : ∃ rb, V3.heap.size = rb := ⟨_, rfl⟩
  rw [hrb] at HY5 hrb5 ⊢
  clear Z5 B5 Y5 HB3 HS3 HX3 HBL3 HZ3 hzl hVg3 hrb
  go_wp2_with fail
  refine (sumOf_any (some ⟨g, o, none⟩) (tz40 ++ R) m c hBd (by unfold maxLen; omega) V5 HB5.out.rd).mono ?_
  rintro e v6 ⟨rfl, hb6, hx6⟩
  have HZ6 : Hid (v6.heap[w.heap.size]? = some (.cells zerL.toArray 52 (0, 0))) := blk_below hb6 HZ5.out
  have HY6 : Hid (v6.heap[rb]? = some (.cells #[.slice (some ⟨g, o + 4, none⟩) (m - 4) (c - 4)] 22 (0, 0))) := blk_below hb6 HY5.out
  have HBL6 : Hid (Below w.heap.size w v6) := HBL5.out.trans (hb6.mono HBL5.out.size)
  have HS6 : Hid (AtB v6 g (o + m) Sm) := HS5.out.mv hVg5 hb6
  have HQ6 : Hid (AtB v6 V5.heap.size 0 (beB 4 (smB (tz40 ++ R)))) := AtB.of_bx hx6
  clear HZ5 HY5 HBL5 HB5 HS5 hb6 hx6
  go_wp2_with fail
  refine (equal_any g (o + m) V5.heap.size 0 4 4 (c - m) 4 Sm (beB 4 (smB (tz40 ++ R))) hSm (beB_len _ _) v6 HS6.out HQ6.out).mono ?_
  rintro e w' ⟨rfl, hw⟩
  obtain rfl := hw.symm
  clear hw HQ6 HS6
  rw [hsum]
  go_upto_region 10 with fail
  have hb7 : Below v6.heap.size v6 (v6.alloc (.cells zerL.toArray 52)) := (Below.refl _ v6).alloc (Nat.le_refl _) _
  obtain ⟨tb, htb⟩ : ∃ tb, v6.heap.size = tb := ⟨_, rfl⟩
  refine gen_code (fun V => Below v6.heap.size v6 V ∧ V.heap[tb]? = some (.cells zerL.toArray 52 (0, 0))) ⟨hb7, by rw [← htb]; exact World.alloc_heap_new v6 _⟩ ?_
  clear hb7
  rintro V7 ⟨b7, T7⟩
  have HZ7 : Hid (V7.heap[w.heap.size]? = some (.cells zerL.toArray 52 (0, 0))) := blk_below b7 HZ6.out
  have HY7 : Hid (V7.heap[rb]? = some (.cells #[.slice (some ⟨g, o + 4, none⟩) (m - 4) (c - 4)] 22 (0, 0))) := blk_below b7 HY6.out
  have HBL7 : Hid (Below w.heap.size w V7) := HBL6.out.trans (b7.mono HBL6.out.size)
  have HT7 : Hid (V7.heap[tb]? = some (.cells zerL.toArray 52 (0, 0))) := T7
  have htz : w.heap.size < tb := by have := (Array.getElem?_eq_some_iff.1 HZ6.out).1; omega
  have htr : rb < tb := by have := (Array.getElem?_eq_some_iff.1 HY6.out).1; omega
  rw [htb]
  clear b7 T7 HZ6 HY6 HBL6 htb
  go_wp2_with fail
  refine (reader_any rb V7).mono ?_
  rintro e v8 ⟨rfl, hb8, hp8⟩
  have htl : tb < V7.heap.size := (Array.getElem?_eq_some_iff.1 HT7.out).1
  have HZ8 : Hid (v8.heap[w.heap.size]? = some (.cells zerL.toArray 52 (0, 0))) := blk_below hb8 HZ7.out
  have HY8 : v8.heap[rb]? = some (.cells #[.slice (some ⟨g, o + 4, none⟩) (m - 4) (c - 4)] 22 (0, 0)) := blk_below hb8 HY7.out
  have HT8 : v8.heap[tb]? = some (.cells zerL.toArray 52 (0, 0)) := blk_below hb8 HT7.out
  have HBL8 : Below w.heap.size w v8 := HBL7.out.trans (hb8.mono HBL7.out.size)
  have hR : R.length = m - 4 := by have h9 := hBd; simp only [List.length_append, show tz40.length = 4 from rfl] at h9; omega
  have HRS : Hid (RS w rb V7.heap.size v8 R) := by
    refine ⟨HBL8, Nat.le_of_lt hrb5, ⟨g, o + 4, c - 4, ?_, by omega, by unfold maxLen at hcx ⊢; omega, gcs, gfz, (HBL8.block g hg).trans hgb, ?_⟩, hp8, by omega⟩
    · rw [hR]; exact HY8
    · intro j x hj
      have hq := HB0.out (4 + j) x (by rw [List.getElem?_append_right (by simp [tz40]), show 4 + j - tz40.length = j from by simp [tz40]]; exact hj)
      rw [show o + 4 + j = o + (4 + j) by omega]
      simp only [World.cell?, hgb] at hq; exact hq
  clear HZ7 HY7 HT7 HBL7 hb8 hp8 HY8 HBL8
  go_wp2_with fail
  refine (HPr.out rb V7.heap.size tb v8 HRS.out HT8 (by omega) (by omega) (by omega)).mono ?_
  rintro e v9 ⟨⟨r9, rfl⟩, ⟨σ9, hr9⟩, ht9, hk9⟩
  have HBL9 : Hid (Below w.heap.size w v9) := hr9.below
  have hz9 : v9.heap[w.heap.size]? = some (.cells zerL.toArray 52 (0, 0)) := hk9.blk HZ8.out (by omega) (by omega) (by decide)
  have HZ9 : Hid (Bx v9 w.heap.size zerL) := bx_of_heap hz9
  have HXT : Hid (Bx v9 tb T) := bx_of_heap ht9
  clear HRS HZ8 HT8 hr9 ht9 hk9 hz9 HPr
  go_wp2_with (first | (refine wpList_load_mid rfl 52 _ rfl tb 0 rfl T _ HXT.out.all Tryd.underlying52 rfl (by rw [hT]; kernel_rfl) ?_) | fail)
  refine (HPut.out v9).mono ?_
  rintro e v11 ⟨va, rfl, hown, hb11⟩
  have HXT11 : Hid (Bx v11 tb T) := HXT.out.below hb11
  have HZ11 : Hid (Bx v11 w.heap.size zerL) := HZ9.out.below hb11
  have HBL11 : Hid (Below w.heap.size w v11) := HBL9.out.trans (hb11.mono HBL9.out.size)
  clear HXT HZ9 HBL9 hb11
  obtain ⟨ga, ca, rfl, hrd⟩ : ∃ ga ca, va = .slice (some ⟨ga, 0, none⟩) (m + 4) ca ∧ AtB v11 ga 0 (tz40 ++ R ++ Sm) := by
    rcases hown.2 with ⟨_, z⟩ | ⟨ga, cap, cur, rfl, _⟩
    · omega
    · exact ⟨ga, cap, rfl, fun j x hj => by have := hown.cells (g := ga) rfl j _ (cellsB_get hj); rw [addr_add0] at this; exact this⟩
  have HRA : Hid (AtB v11 ga 0 (tz40 ++ R ++ Sm)) := hrd
  have HRB : Hid (AtB v11 g o (tz40 ++ R ++ Sm)) := HL0.out.mv hg HBL11.out
  clear hown hrd
  have hlen : (tz40 ++ R ++ Sm).length = m + 4 := by rw [List.length_append, hBd, hSm]
  have HXT : Hid (Bx v11 tb T) := HXT11
  have HZ9 : Hid (Bx v11 w.heap.size zerL) := HZ11
  have HBL9 : Hid (Below w.heap.size w v11) := HBL11
  clear HXT11 HZ11 HBL11
  go_wp2_with fail
  refine (equal_any ga 0 g o (m + 4) (m + 4) ca c (tz40 ++ R ++ Sm) (tz40 ++ R ++ Sm) hlen hlen v11 HRA.out HRB.out).mono ?_
  rintro e w' ⟨rfl, hw⟩
  obtain rfl := hw.symm
  clear hw HRA HRB
  rw [show ((tz40 ++ R ++ Sm) == (tz40 ++ R ++ Sm)) = true from beq_self_eq_true _]
  have HTH : v11.there w.heap.size 0 T.toArray.size := by rw [show T.toArray.size = 25 from by simp [hT]]; exact HZ9.out.there
  go_wp2_with (first | (refine wpList_load_mid rfl 52 _ rfl tb 0 rfl T _ HXT.out.all Tryd.underlying52 rfl (by rw [hT]; kernel_rfl) ?_) | (refine wpList_store_mid rfl 52 _ _ rfl w.heap.size 0 T.toArray rfl rfl HTH (by rw [show T.toArray.size = 25 from by simp [hT]]; kernel_rfl) honeT ?_; refine gen_list (fun V => Bx V w.heap.size T ∧ Below w.heap.size w V) ⟨HZ9.out.setAll T (by rw [hT]; rfl), below_setCells (Nat.le_refl _) _ _ _ HBL9.out⟩ ?_; rintro V10 ⟨X10, B10⟩))
  exact bodyPost_ret (v := .tuple #[.agg T.toArray, .int .i64 0]) (results_cell2 rfl _ _ _ _ _ rfl rfl (run_loadVar_mid _ _ _ _ T _ X10.all Tryd.underlying52 rfl (by rw [hT]; kernel_rfl))) rfl ⟨rfl, B10⟩

end Go.Proofs.YtdonjdihffpghaaDoor
