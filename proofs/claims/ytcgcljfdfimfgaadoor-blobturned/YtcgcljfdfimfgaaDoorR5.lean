import Derived.Test.YtcgcljfdfimfgaaDoorR4
import Derived.Test.YtcgcljfdfimfgaaDoorR3
import Derived.Deep.Cut
import Derived.Lib.SlBytesConst
/- Contract: blob.Get: what does not begin with TZ40, what has another sum; what is read and written again. -/
namespace Go.Proofs.YtcgcljfdfimfgaaDoor
open Go.RowKit Sr
set_option linter.unusedVariables false

def nums9 (L : List UInt8) : List Int := L.map fun b => (b.toNat : Int)
theorem nums9_len (L : List UInt8) : (nums9 L).length = L.length := by simp [nums9]
theorem nums9_bytes (L : List UInt8) : Lib.bytesOf (nums9 L) = L := by
  simp [nums9, Lib.bytesOf, List.map_map, Function.comp_def]
/-- the bytes L lie from (g, o) on. -/
def AtB (W : World) (g o : Nat) (L : List UInt8) : Prop := ∀ j x, L[j]? = some x → W.cell? ⟨g, o + j, none⟩ = some (.int .u8 (x.toNat : Int))
theorem AtB.nums {W : World} {g o n : Nat} {L : List UInt8} (h : AtB W g o L) (hn : L.length = n) : ∀ i, i < n → W.cell? ⟨g, o + i, none⟩ = some (.int .u8 ((nums9 L).getD i 0)) := by
  intro i hi
  have hx : L[i]? = some (L[i]'(by omega)) := List.getElem?_eq_getElem _
  rw [h i _ hx]
  simp [nums9, List.getD, hx]
theorem AtB.mv {W W' : World} {g o : Nat} {L : List UInt8} (h : AtB W g o L) (hg : g < W.heap.size) (k : Below W.heap.size W W') : AtB W' g o L := fun j x hj => (k.cell (p := ⟨g, o + j, none⟩) hg).trans (h j x hj)
theorem AtB.rd {W : World} {g o : Nat} {L : List UInt8} (h : AtB W g o L) : RdB W (some ⟨g, o, none⟩) L := fun j x hj => ⟨_, rfl, by rw [addr_add0]; exact h j x hj⟩
theorem AtB.of_bx {W : World} {g : Nat} {L : List UInt8} (h : Bx W g (cellsB L)) : AtB W g 0 L := fun j x hj => by rw [Nat.zero_add]; exact h.c j (cellsB_get hj)
theorem equal_any (g1 o1 g2 o2 n m c d : Nat) (L M : List UInt8) (hn : L.length = n) (hm : M.length = m) (w : World) (h1 : AtB w g1 o1 L) (h2 : AtB w g2 o2 M) :
    Calls Tryd.prog 20 #[.slice (some ⟨g1, o1, none⟩) n c, .slice (some ⟨g2, o2, none⟩) m d] w fun e w' => e = .returned (.bool (L == M)) ∧ w' = w := by
  have a1 := run_convert_bytes_arg (P := Tryd.prog) (w := w) 35 5 Tryd.underlying35 Tryd.underlying5 g1 o1 n c (nums9 L) (by rw [nums9_len, hn]) (h1.nums hn) 9 Tryd.underlying9
  have a2 := run_convert_bytes_arg (P := Tryd.prog) (w := w) 35 5 Tryd.underlying35 Tryd.underlying5 g2 o2 m d (nums9 M) (by rw [nums9_len, hm]) (h2.nums hm) 9 Tryd.underlying9
  refine (Tryd.bytes_Equal _ _ (nums9 L) (nums9 M) w a1 a2).mono ?_
  rintro e w' ⟨rfl, rfl⟩
  rw [nums9_bytes, nums9_bytes]
  exact ⟨rfl, rfl⟩
theorem cutp_yes (g o n c pz d : Nat) (R : List UInt8) (hn : (tz40 ++ R).length = n) (hc : n ≤ c) (hc4 : c ≠ 4) (w : World) (h1 : AtB w g o (tz40 ++ R)) (h2 : AtB w pz 0 tz40) :
    Calls Tryd.prog 19 #[.slice (some ⟨g, o, none⟩) n c, .slice (some ⟨pz, 0, none⟩) 4 d] w fun e w' => e = .returned (.tuple #[.slice (some ⟨g, o + 4, none⟩) (n - 4) (c - 4), .bool true]) ∧ w' = w := by
  refine (Tryd.bytes_CutPrefix g o n c pz 0 4 d (nums9 (tz40 ++ R)) (nums9 tz40) w (by rw [nums9_len, hn]) rfl hc (h1.nums hn) (h2.nums rfl)).mono ?_
  rintro e w' ⟨rfl, rfl⟩
  have hp : Lib.hasPrefix (Lib.bytesOf (nums9 (tz40 ++ R))) (Lib.bytesOf (nums9 tz40)) = true := by rw [nums9_bytes, nums9_bytes]; simp [Lib.hasPrefix]
  refine ⟨?_, rfl⟩
  rw [hp, Lib.bytesTrimPrefix, if_pos hp, Lib.sliceFrom, show (nums9 tz40).length = 4 from rfl, if_neg hc4]
theorem cutp_no (g o n c pz d : Nat) (L : List UInt8) (hn : L.length = n) (hc : n ≤ c) (hp : tz40.isPrefixOf L = false) (w : World) (h1 : AtB w g o L) (h2 : AtB w pz 0 tz40) :
    Calls Tryd.prog 19 #[.slice (some ⟨g, o, none⟩) n c, .slice (some ⟨pz, 0, none⟩) 4 d] w fun e w' => e = .returned (.tuple #[.slice (some ⟨g, o, none⟩) n c, .bool false]) ∧ w' = w := by
  refine (Tryd.bytes_CutPrefix g o n c pz 0 4 d (nums9 L) (nums9 tz40) w (by rw [nums9_len, hn]) rfl hc (h1.nums hn) (h2.nums rfl)).mono ?_
  rintro e w' ⟨rfl, rfl⟩
  have hp' : Lib.hasPrefix (Lib.bytesOf (nums9 L)) (Lib.bytesOf (nums9 tz40)) = false := by rw [nums9_bytes, nums9_bytes]; exact hp
  refine ⟨?_, rfl⟩
  rw [hp', Lib.bytesTrimPrefix, if_neg (by rw [hp']; decide)]

theorem gen_then {K : Act → World → Prop} {Q : Exit → Act → World → Prop} {e : Exit} {a : Act} {w1 : World} (T : World → Prop) (h : T w1) (k : ∀ w2, T w2 → Exit.then K Q e a w2) : Exit.then K Q e a w1 := k _ h
theorem results_cell2 {P : Program} {fn : Func} {p q : Tmp} {ty : TypeId} (h : fn.results = #[.cell p ty, .tmp q]) (tmps : Array Value) (w : World) (a : Addr) (v u : Value) (hp : tmps[p]?.getD undef = .pointer (some a)) (hq : tmps[q]?.getD undef = u) (hl : (loadVar ty a).run P w = .ok v w) :
    (results fn tmps).run P w = .ok (.tuple #[v, u]) w := by
  simp [results, h, hp, hq, asAddr, hl]

set_option maxRecDepth 100000 in
set_option maxHeartbeats 4000000 in
theorem get_form (g o c m : Nat) (Bd Sm : List UInt8) (hBd : Bd.length = m) (hSm : Sm.length = 4) (hm4 : 4 ≤ m) (hc : m + 4 ≤ c) (hcx : c ≤ maxLen) (w : World) (hg : g < w.heap.size) (HB1 : Hid (AtB w g o Bd)) (HS1 : Hid (AtB w g (o + m) Sm)) (hp : tz40.isPrefixOf Bd = false) :
    Calls Tryd.prog 8 #[.slice (some ⟨g, o, none⟩) (m + 4) c] w fun e w' => e = .returned (.tuple #[.agg zerL.toArray, .int .i64 21]) ∧ Below w.heap.size w w' := by
  have hcm : c ≤ 9223372036854775807 := hcx
  have hwm : IntKind.i64.wrap (m : Int) = (m : Int) := by rw [IntKind.wrap_i64]; omega
  have X1 : Hid (Bx (w.alloc (.cells zerL.toArray 46)) w.heap.size zerL) := Bx.new w zerL 46
  have B1 : Hid (Below w.heap.size w (w.alloc (.cells zerL.toArray 46))) := (Below.refl _ _).alloc (Nat.le_refl _) _
  go_enter Tryd.func8, Tryd.ntmps8
  go_upto_region 1 with fail
  refine gen_code (fun V => Bx V w.heap.size zerL ∧ Below w.heap.size w V) ⟨X1.out, B1.out⟩ ?_
  clear X1 B1
  rintro V ⟨XV, BV⟩
  have HX : Hid (Bx V w.heap.size zerL) := XV
  have HB : Hid (Below w.heap.size w V) := BV
  clear XV BV
  go_wp2_with fail
  refine wp_region_held_drew (S := fun _ => True) (by kernel_rfl) trivial (fun hHeld => ?_)
  refine wpAnyH_take (i := 0) (v := ?_) (oi := { dst := some 15, op := _, type := _, pos := _, after := _, guard := none }) rfl (by kernel_rfl) (by kernel_rfl) (by kernel_rfl) (fun _ _ _ h => h) (Or.inl ⟨by kernel_rfl, ?_⟩) (by assumption) ?_
  case refine_2 => (intro w9 hSw; clear hSw; (go_simp); (try omega); (try (rw [if_pos (by omega), if_neg (by omega)])); try with_reducible rfl)
  simp only [Act.put, List.setIfInBounds_toArray, List.set_cons_zero, List.set_cons_succ]
  refine wpAnyH_take (i := 1) (v := ?_) (oi := { dst := some 16, op := _, type := _, pos := _, after := _, guard := none }) rfl (by kernel_rfl) (by kernel_rfl) (by kernel_rfl) (fun _ _ _ h => h) (Or.inl ⟨by kernel_rfl, ?_⟩) (by assumption) ?_
  case refine_2 => (intro w9 hSw; clear hSw; (go_simp); (try omega); (try (rw [if_pos (by omega), if_neg (by omega)])); try with_reducible rfl)
  simp only [Act.put, List.setIfInBounds_toArray, List.set_cons_zero, List.set_cons_succ]
  refine wpAnyH_take (i := 2) (v := ?_) (oi := { dst := some 17, op := _, type := _, pos := _, after := _, guard := none }) rfl (by kernel_rfl) (by kernel_rfl) (by kernel_rfl) (fun _ _ _ h => h) (Or.inl ⟨by kernel_rfl, ?_⟩) (by assumption) ?_
  case refine_2 => (intro w9 hSw; clear hSw; (go_simp); (try omega); (try (rw [if_pos (by omega), if_neg (by omega)])); try with_reducible rfl)
  simp only [Act.put, List.setIfInBounds_toArray, List.set_cons_zero, List.set_cons_succ]
  refine wpAnyH_take (i := 3) (v := ?_) (oi := { dst := some 18, op := _, type := _, pos := _, after := _, guard := none }) rfl (by kernel_rfl) (by kernel_rfl) (by kernel_rfl) (fun _ _ _ h => h) (Or.inl ⟨by kernel_rfl, ?_⟩) (by assumption) ?_
  case refine_2 => (intro w9 hSw; clear hSw; (go_simp); (try omega); (try (rw [if_pos (by omega), if_neg (by omega)])); try with_reducible rfl)
  simp only [Act.put, List.setIfInBounds_toArray, List.set_cons_zero, List.set_cons_succ]
  refine wpAnyH_take (i := 4) (v := .slice (some ⟨g, o, none⟩) m c) (oi := { dst := some 19, op := _, type := _, pos := _, after := _, guard := none }) rfl (by kernel_rfl) (by kernel_rfl) (by kernel_rfl) (fun _ _ _ h => h) (Or.inl ⟨by kernel_rfl, ?_⟩) (by assumption) ?_
  case refine_1 => (intro w9 hSw; clear hSw; (go_simp); (try omega); (try (rw [if_pos (by omega), if_neg (by omega)])); try with_reducible rfl)
  simp only [Act.put, List.setIfInBounds_toArray, List.set_cons_zero, List.set_cons_succ]
  refine wpAnyH_take (i := 5) (v := ?_) (oi := { dst := some 20, op := _, type := _, pos := _, after := _, guard := none }) rfl (by kernel_rfl) (by kernel_rfl) (by kernel_rfl) (fun _ _ _ h => h) (Or.inl ⟨by kernel_rfl, ?_⟩) (by assumption) ?_
  case refine_2 => (intro w9 hSw; clear hSw; (go_simp); (try omega); (try (rw [if_pos (by omega), if_neg (by omega)])); try with_reducible rfl)
  simp only [Act.put, List.setIfInBounds_toArray, List.set_cons_zero, List.set_cons_succ]
  refine wpAnyH_take (i := 6) (v := ?_) (oi := { dst := some 21, op := _, type := _, pos := _, after := _, guard := none }) rfl (by kernel_rfl) (by kernel_rfl) (by kernel_rfl) (fun _ _ _ h => h) (Or.inl ⟨by kernel_rfl, ?_⟩) (by assumption) ?_
  case refine_2 => (intro w9 hSw; clear hSw; (go_simp); (try omega); (try (rw [if_pos (by omega), if_neg (by omega)])); try with_reducible rfl)
  simp only [Act.put, List.setIfInBounds_toArray, List.set_cons_zero, List.set_cons_succ]
  refine wpAnyH_take (i := 7) (v := ?_) (oi := { dst := some 22, op := _, type := _, pos := _, after := _, guard := none }) rfl (by kernel_rfl) (by kernel_rfl) (by kernel_rfl) (fun _ _ _ h => h) (Or.inl ⟨by kernel_rfl, ?_⟩) (by assumption) ?_
  case refine_2 => (intro w9 hSw; clear hSw; (go_simp); (try omega); (try (rw [if_pos (by omega), if_neg (by omega)])); try with_reducible rfl)
  simp only [Act.put, List.setIfInBounds_toArray, List.set_cons_zero, List.set_cons_succ]
  refine wpAnyH_take (i := 8) (v := ?_) (oi := { dst := some 23, op := _, type := _, pos := _, after := _, guard := none }) rfl (by kernel_rfl) (by kernel_rfl) (by kernel_rfl) (fun _ _ _ h => h) (Or.inl ⟨by kernel_rfl, ?_⟩) (by assumption) ?_
  case refine_2 => (intro w9 hSw; clear hSw; (go_simp); (try omega); (try (rw [if_pos (by omega), if_neg (by omega)])); try with_reducible rfl)
  simp only [Act.put, List.setIfInBounds_toArray, List.set_cons_zero, List.set_cons_succ]
  refine wpAnyH_take (i := 9) (v := .slice (some ⟨g, o + m, none⟩) 4 (c - m)) (oi := { dst := some 24, op := _, type := _, pos := _, after := _, guard := none }) rfl (by kernel_rfl) (by kernel_rfl) (by kernel_rfl) (fun _ _ _ h => h) (Or.inl ⟨by kernel_rfl, ?_⟩) (by assumption) ?_
  case refine_1 => (intro w9 hSw; clear hSw; (go_simp); (try omega); (try (rw [if_pos (by omega), if_neg (by omega)])); try with_reducible rfl)
  simp only [Act.put, List.setIfInBounds_toArray, List.set_cons_zero, List.set_cons_succ]
  refine wpAnyH_take (i := 10) (v := ?_) (oi := { dst := some 4, op := _, type := _, pos := _, after := _, guard := none }) rfl (by kernel_rfl) (by kernel_rfl) (by kernel_rfl) (fun _ _ _ h => h) (Or.inl ⟨by kernel_rfl, ?_⟩) (by assumption) ?_
  case refine_2 => (intro w9 hSw; clear hSw; (go_simp); (try omega); (try (rw [if_pos (by omega), if_neg (by omega)])); try with_reducible rfl)
  simp only [Act.put, List.setIfInBounds_toArray, List.set_cons_zero, List.set_cons_succ]
  refine wpAnyH_take (i := 11) (v := ?_) (oi := { dst := some 5, op := _, type := _, pos := _, after := _, guard := none }) rfl (by kernel_rfl) (by kernel_rfl) (by kernel_rfl) (fun _ _ _ h => h) (Or.inl ⟨by kernel_rfl, ?_⟩) (by assumption) ?_
  case refine_2 => (intro w9 hSw; clear hSw; (go_simp); (try omega); (try (rw [if_pos (by omega), if_neg (by omega)])); try with_reducible rfl)
  simp only [Act.put, List.setIfInBounds_toArray, List.set_cons_zero, List.set_cons_succ]
  refine wpAnyH_done (by kernel_rfl) ?_ _
  refine gen_then (fun V => Bx V w.heap.size zerL ∧ Below w.heap.size w V) ⟨HX.out.below (below_drew1 _), HB.out.trans ((below_drew1 V).mono HB.out.size)⟩ ?_
  clear HX HB hHeld
  rintro V2 ⟨XV, BV⟩
  have HX : Hid (Bx V2 w.heap.size zerL) := XV
  have HB : Hid (Below w.heap.size w V2) := BV
  have hVg : g < V2.heap.size := Nat.lt_of_lt_of_le hg BV.size
  have HB2 : Hid (AtB V2 g o Bd) := HB1.out.mv hg (BV.mono (Nat.le_refl _))
  have HS2 : Hid (AtB V2 g (o + m) Sm) := HS1.out.mv hg (BV.mono (Nat.le_refl _))
  clear XV BV HB1 HS1
  have hcv : (convert 35 35 (.slice (some ⟨V2.heap.size, 0, none⟩) 4 4)).run Tryd.prog (V2.alloc (.cells #[.int .u8 84, .int .u8 90, .int .u8 52, .int .u8 48] 5)) = .ok (.slice (some ⟨V2.heap.size, 0, none⟩) 4 4) (V2.alloc (.cells #[.int .u8 84, .int .u8 90, .int .u8 52, .int .u8 48] 5 (4, 5))) := Lib.run_convert_bytes_const V2 35 5 #[.int .u8 84, .int .u8 90, .int .u8 52, .int .u8 48] 4 4 Tryd.underlying35 Tryd.underlying5
  obtain ⟨V3, hV3⟩ : ∃ V3, V2.alloc (.cells #[.int .u8 84, .int .u8 90, .int .u8 52, .int .u8 48] 5 (4, 5)) = V3 := ⟨_, rfl⟩
  rw [hV3] at hcv
  have hb3 : Below V2.heap.size V2 V3 := by rw [← hV3]; exact (Below.refl _ V2).alloc (Nat.le_refl _) _
  have HX3 : Hid (Bx V3 w.heap.size zerL) := HX.out.below hb3
  have HBL3 : Hid (Below w.heap.size w V3) := HB.out.trans (hb3.mono HB.out.size)
  have HB3 : Hid (AtB V3 g o Bd) := HB2.out.mv hVg hb3
  have HS3 : Hid (AtB V3 g (o + m) Sm) := HS2.out.mv hVg hb3
  have HT3 : Hid (AtB V3 V2.heap.size 0 tz40) := AtB.of_bx ⟨by rw [← hV3]; simp, fun i v hv => by
    have hh : V3.heap[V2.heap.size]? = some (.cells (cellsB tz40).toArray 5 (4, 5)) := by rw [← hV3]; exact World.alloc_heap_new V2 _
    have hi : i < 4 := (List.getElem?_eq_some_iff.1 hv).1
    exact ⟨cell_of hh (by simpa using hv), by simp [World.frozen?, hh]; omega⟩⟩
  have hVg3 : g < V3.heap.size := Nat.lt_of_lt_of_le hVg hb3.size
  clear HX HB HB2 HS2 hb3 hV3 hVg
  go_wp2_with fail
  refine (cutp_no g o m c V2.heap.size 4 Bd hBd (by omega) hp V3 HB3.out HT3.out).mono ?_
  rintro e w' ⟨rfl, hw⟩
  obtain rfl := hw.symm
  clear hw hcv HT3
  go_upto_region 6 with fail
  refine gen_code (fun V => Bx V w.heap.size zerL ∧ Below w.heap.size w V) ⟨HX3.out.below ((Below.refl _ V3).alloc (Nat.le_refl _) _), HBL3.out.trans (((Below.refl _ V3).alloc (Nat.le_refl _) _).mono HBL3.out.size)⟩ ?_
  clear HX3 HBL3
  rintro V5 ⟨X5, B5⟩
  have HX5 : Hid (Bx V5 w.heap.size zerL) := X5
  have HB5 : Hid (Below w.heap.size w V5) := B5
  clear X5 B5
  go_wp2_with (refine wpList_store_mid rfl 46 _ _ rfl w.heap.size 0 zerL.toArray rfl rfl HX5.out.there (by kernel_rfl) one_zer ?_; refine gen_list (fun V => Bx V w.heap.size zerL ∧ Below w.heap.size w V) ⟨HX5.out.setAll zerL rfl, below_setCells (Nat.le_refl _) _ _ _ HB5.out⟩ ?_; rintro V9 ⟨X9, B9⟩)
  exact bodyPost_ret (v := .tuple #[.agg zerL.toArray, .int .i64 21]) (results_cell2 rfl _ _ _ _ _ rfl rfl (run_loadVar_mid _ _ _ _ zerL _ X9.all Tryd.underlying46 rfl (by kernel_rfl))) rfl ⟨rfl, B9⟩

set_option maxRecDepth 100000 in
set_option maxHeartbeats 4000000 in
theorem get_sum (g o c m : Nat) (R Sm : List UInt8) (hBd : (tz40 ++ R).length = m) (hSm : Sm.length = 4) (hm4 : 4 ≤ m) (hc : m + 4 ≤ c) (hcx : c ≤ maxLen) (w : World) (hg : g < w.heap.size) (HB1 : Hid (AtB w g o (tz40 ++ R))) (HS1 : Hid (AtB w g (o + m) Sm)) (hne : (Sm == beB 4 (smB (tz40 ++ R))) = false) :
    Calls Tryd.prog 8 #[.slice (some ⟨g, o, none⟩) (m + 4) c] w fun e w' => e = .returned (.tuple #[.agg zerL.toArray, .int .i64 22]) ∧ Below w.heap.size w w' := by
  have hcm : c ≤ 9223372036854775807 := hcx
  have hwm : IntKind.i64.wrap (m : Int) = (m : Int) := by rw [IntKind.wrap_i64]; omega
  have X1 : Hid ((w.alloc (.cells zerL.toArray 46)).heap[w.heap.size]? = some (.cells zerL.toArray 46 (0, 0))) := World.alloc_heap_new w _
  have B1 : Hid (Below w.heap.size w (w.alloc (.cells zerL.toArray 46))) := (Below.refl _ _).alloc (Nat.le_refl _) _
  go_enter Tryd.func8, Tryd.ntmps8
  go_upto_region 1 with fail
  refine gen_code (fun V => V.heap[w.heap.size]? = some (.cells zerL.toArray 46 (0, 0)) ∧ Below w.heap.size w V) ⟨X1.out, B1.out⟩ ?_
  clear X1 B1
  rintro V ⟨XV, BV⟩
  have HX : Hid (V.heap[w.heap.size]? = some (.cells zerL.toArray 46 (0, 0))) := XV
  have HB : Hid (Below w.heap.size w V) := BV
  clear XV BV
  go_wp2_with fail
  refine wp_region_held_drew (S := fun _ => True) (by kernel_rfl) trivial (fun hHeld => ?_)
  refine wpAnyH_take (i := 0) (v := ?_) (oi := { dst := some 15, op := _, type := _, pos := _, after := _, guard := none }) rfl (by kernel_rfl) (by kernel_rfl) (by kernel_rfl) (fun _ _ _ h => h) (Or.inl ⟨by kernel_rfl, ?_⟩) (by assumption) ?_
  case refine_2 => (intro w9 hSw; clear hSw; (go_simp); (try omega); (try (rw [if_pos (by omega), if_neg (by omega)])); try with_reducible rfl)
  simp only [Act.put, List.setIfInBounds_toArray, List.set_cons_zero, List.set_cons_succ]
  refine wpAnyH_take (i := 1) (v := ?_) (oi := { dst := some 16, op := _, type := _, pos := _, after := _, guard := none }) rfl (by kernel_rfl) (by kernel_rfl) (by kernel_rfl) (fun _ _ _ h => h) (Or.inl ⟨by kernel_rfl, ?_⟩) (by assumption) ?_
  case refine_2 => (intro w9 hSw; clear hSw; (go_simp); (try omega); (try (rw [if_pos (by omega), if_neg (by omega)])); try with_reducible rfl)
  simp only [Act.put, List.setIfInBounds_toArray, List.set_cons_zero, List.set_cons_succ]
  refine wpAnyH_take (i := 2) (v := ?_) (oi := { dst := some 17, op := _, type := _, pos := _, after := _, guard := none }) rfl (by kernel_rfl) (by kernel_rfl) (by kernel_rfl) (fun _ _ _ h => h) (Or.inl ⟨by kernel_rfl, ?_⟩) (by assumption) ?_
  case refine_2 => (intro w9 hSw; clear hSw; (go_simp); (try omega); (try (rw [if_pos (by omega), if_neg (by omega)])); try with_reducible rfl)
  simp only [Act.put, List.setIfInBounds_toArray, List.set_cons_zero, List.set_cons_succ]
  refine wpAnyH_take (i := 3) (v := ?_) (oi := { dst := some 18, op := _, type := _, pos := _, after := _, guard := none }) rfl (by kernel_rfl) (by kernel_rfl) (by kernel_rfl) (fun _ _ _ h => h) (Or.inl ⟨by kernel_rfl, ?_⟩) (by assumption) ?_
  case refine_2 => (intro w9 hSw; clear hSw; (go_simp); (try omega); (try (rw [if_pos (by omega), if_neg (by omega)])); try with_reducible rfl)
  simp only [Act.put, List.setIfInBounds_toArray, List.set_cons_zero, List.set_cons_succ]
  refine wpAnyH_take (i := 4) (v := .slice (some ⟨g, o, none⟩) m c) (oi := { dst := some 19, op := _, type := _, pos := _, after := _, guard := none }) rfl (by kernel_rfl) (by kernel_rfl) (by kernel_rfl) (fun _ _ _ h => h) (Or.inl ⟨by kernel_rfl, ?_⟩) (by assumption) ?_
  case refine_1 => (intro w9 hSw; clear hSw; (go_simp); (try omega); (try (rw [if_pos (by omega), if_neg (by omega)])); try with_reducible rfl)
  simp only [Act.put, List.setIfInBounds_toArray, List.set_cons_zero, List.set_cons_succ]
  refine wpAnyH_take (i := 5) (v := ?_) (oi := { dst := some 20, op := _, type := _, pos := _, after := _, guard := none }) rfl (by kernel_rfl) (by kernel_rfl) (by kernel_rfl) (fun _ _ _ h => h) (Or.inl ⟨by kernel_rfl, ?_⟩) (by assumption) ?_
  case refine_2 => (intro w9 hSw; clear hSw; (go_simp); (try omega); (try (rw [if_pos (by omega), if_neg (by omega)])); try with_reducible rfl)
  simp only [Act.put, List.setIfInBounds_toArray, List.set_cons_zero, List.set_cons_succ]
  refine wpAnyH_take (i := 6) (v := ?_) (oi := { dst := some 21, op := _, type := _, pos := _, after := _, guard := none }) rfl (by kernel_rfl) (by kernel_rfl) (by kernel_rfl) (fun _ _ _ h => h) (Or.inl ⟨by kernel_rfl, ?_⟩) (by assumption) ?_
  case refine_2 => (intro w9 hSw; clear hSw; (go_simp); (try omega); (try (rw [if_pos (by omega), if_neg (by omega)])); try with_reducible rfl)
  simp only [Act.put, List.setIfInBounds_toArray, List.set_cons_zero, List.set_cons_succ]
  refine wpAnyH_take (i := 7) (v := ?_) (oi := { dst := some 22, op := _, type := _, pos := _, after := _, guard := none }) rfl (by kernel_rfl) (by kernel_rfl) (by kernel_rfl) (fun _ _ _ h => h) (Or.inl ⟨by kernel_rfl, ?_⟩) (by assumption) ?_
  case refine_2 => (intro w9 hSw; clear hSw; (go_simp); (try omega); (try (rw [if_pos (by omega), if_neg (by omega)])); try with_reducible rfl)
  simp only [Act.put, List.setIfInBounds_toArray, List.set_cons_zero, List.set_cons_succ]
  refine wpAnyH_take (i := 8) (v := ?_) (oi := { dst := some 23, op := _, type := _, pos := _, after := _, guard := none }) rfl (by kernel_rfl) (by kernel_rfl) (by kernel_rfl) (fun _ _ _ h => h) (Or.inl ⟨by kernel_rfl, ?_⟩) (by assumption) ?_
  case refine_2 => (intro w9 hSw; clear hSw; (go_simp); (try omega); (try (rw [if_pos (by omega), if_neg (by omega)])); try with_reducible rfl)
  simp only [Act.put, List.setIfInBounds_toArray, List.set_cons_zero, List.set_cons_succ]
  refine wpAnyH_take (i := 9) (v := .slice (some ⟨g, o + m, none⟩) 4 (c - m)) (oi := { dst := some 24, op := _, type := _, pos := _, after := _, guard := none }) rfl (by kernel_rfl) (by kernel_rfl) (by kernel_rfl) (fun _ _ _ h => h) (Or.inl ⟨by kernel_rfl, ?_⟩) (by assumption) ?_
  case refine_1 => (intro w9 hSw; clear hSw; (go_simp); (try omega); (try (rw [if_pos (by omega), if_neg (by omega)])); try with_reducible rfl)
  simp only [Act.put, List.setIfInBounds_toArray, List.set_cons_zero, List.set_cons_succ]
  refine wpAnyH_take (i := 10) (v := ?_) (oi := { dst := some 4, op := _, type := _, pos := _, after := _, guard := none }) rfl (by kernel_rfl) (by kernel_rfl) (by kernel_rfl) (fun _ _ _ h => h) (Or.inl ⟨by kernel_rfl, ?_⟩) (by assumption) ?_
  case refine_2 => (intro w9 hSw; clear hSw; (go_simp); (try omega); (try (rw [if_pos (by omega), if_neg (by omega)])); try with_reducible rfl)
  simp only [Act.put, List.setIfInBounds_toArray, List.set_cons_zero, List.set_cons_succ]
  refine wpAnyH_take (i := 11) (v := ?_) (oi := { dst := some 5, op := _, type := _, pos := _, after := _, guard := none }) rfl (by kernel_rfl) (by kernel_rfl) (by kernel_rfl) (fun _ _ _ h => h) (Or.inl ⟨by kernel_rfl, ?_⟩) (by assumption) ?_
  case refine_2 => (intro w9 hSw; clear hSw; (go_simp); (try omega); (try (rw [if_pos (by omega), if_neg (by omega)])); try with_reducible rfl)
  simp only [Act.put, List.setIfInBounds_toArray, List.set_cons_zero, List.set_cons_succ]
  refine wpAnyH_done (by kernel_rfl) ?_ _
  refine gen_then (fun V => V.heap[w.heap.size]? = some (.cells zerL.toArray 46 (0, 0)) ∧ Below w.heap.size w V) ⟨HX.out, HB.out.trans ((below_drew1 V).mono HB.out.size)⟩ ?_
  clear HX HB hHeld
  rintro V2 ⟨XV, BV⟩
  have HX : Hid (V2.heap[w.heap.size]? = some (.cells zerL.toArray 46 (0, 0))) := XV
  have HB : Hid (Below w.heap.size w V2) := BV
  have hVg : g < V2.heap.size := Nat.lt_of_lt_of_le hg BV.size
  have HB2 : Hid (AtB V2 g o (tz40 ++ R)) := HB1.out.mv hg (BV.mono (Nat.le_refl _))
  have HS2 : Hid (AtB V2 g (o + m) Sm) := HS1.out.mv hg (BV.mono (Nat.le_refl _))
  clear XV BV HB1 HS1
  have hcv : (convert 35 35 (.slice (some ⟨V2.heap.size, 0, none⟩) 4 4)).run Tryd.prog (V2.alloc (.cells #[.int .u8 84, .int .u8 90, .int .u8 52, .int .u8 48] 5)) = .ok (.slice (some ⟨V2.heap.size, 0, none⟩) 4 4) (V2.alloc (.cells #[.int .u8 84, .int .u8 90, .int .u8 52, .int .u8 48] 5 (4, 5))) := Lib.run_convert_bytes_const V2 35 5 #[.int .u8 84, .int .u8 90, .int .u8 52, .int .u8 48] 4 4 Tryd.underlying35 Tryd.underlying5
  obtain ⟨V3, hV3⟩ : ∃ V3, V2.alloc (.cells #[.int .u8 84, .int .u8 90, .int .u8 52, .int .u8 48] 5 (4, 5)) = V3 := ⟨_, rfl⟩
  rw [hV3] at hcv
  have hb3 : Below V2.heap.size V2 V3 := by rw [← hV3]; exact (Below.refl _ V2).alloc (Nat.le_refl _) _
  have HX3 : Hid (V3.heap[w.heap.size]? = some (.cells zerL.toArray 46 (0, 0))) := blk_below hb3 HX.out
  have HBL3 : Hid (Below w.heap.size w V3) := HB.out.trans (hb3.mono HB.out.size)
  have HB3 : Hid (AtB V3 g o (tz40 ++ R)) := HB2.out.mv hVg hb3
  have HS3 : Hid (AtB V3 g (o + m) Sm) := HS2.out.mv hVg hb3
  have HT3 : Hid (AtB V3 V2.heap.size 0 tz40) := AtB.of_bx ⟨by rw [← hV3]; simp, fun i v hv => by
    have hh : V3.heap[V2.heap.size]? = some (.cells (cellsB tz40).toArray 5 (4, 5)) := by rw [← hV3]; exact World.alloc_heap_new V2 _
    have hi : i < 4 := (List.getElem?_eq_some_iff.1 hv).1
    exact ⟨cell_of hh (by simpa using hv), by simp [World.frozen?, hh]; omega⟩⟩
  have hVg3 : g < V3.heap.size := Nat.lt_of_lt_of_le hVg hb3.size
  clear HX HB HB2 HS2 hb3 hV3 hVg
  go_wp2_with fail
  refine (cutp_yes g o m c V2.heap.size 4 R hBd (by omega) (by omega) V3 HB3.out HT3.out).mono ?_
  rintro e w' ⟨rfl, hw⟩
  obtain rfl := hw.symm
  clear hw hcv HT3
  have HZ3 : Hid (V3.heap[w.heap.size]? = some (.cells zerL.toArray 46 (0, 0))) := HX3
  have hzl : w.heap.size < V3.heap.size := (Array.getElem?_eq_some_iff.1 HZ3.out).1
  go_upto_region 7 with fail
  refine gen_code (fun V => V.heap[w.heap.size]? = some (.cells zerL.toArray 46 (0, 0)) ∧ Below V3.heap.size V3 V ∧ V.heap[V3.heap.size]? = some (.cells #[.slice (some ⟨g, o + 4, none⟩) (m - 4) (c - 4)] 35 (0, 0))) ⟨(Below.heap_alloc _ _ _ hzl).trans HZ3.out, (Below.refl _ V3).alloc (Nat.le_refl _) _, World.alloc_heap_new V3 _⟩ ?_
  rintro V5 ⟨Z5, B5, Y5⟩
  have HZ5 : Hid (V5.heap[w.heap.size]? = some (.cells zerL.toArray 46 (0, 0))) := Z5
  have HY5 : Hid (V5.heap[V3.heap.size]? = some (.cells #[.slice (some ⟨g, o + 4, none⟩) (m - 4) (c - 4)] 35 (0, 0))) := Y5
  have HBL5 : Hid (Below w.heap.size w V5) := HBL3.out.trans (B5.mono HBL3.out.size)
  have HB5 : Hid (AtB V5 g o (tz40 ++ R)) := HB3.out.mv hVg3 B5
  have HS5 : Hid (AtB V5 g (o + m) Sm) := HS3.out.mv hVg3 B5
  have hVg5 : g < V5.heap.size := Nat.lt_of_lt_of_le hVg3 B5.size
  have hrb5 : w.heap.size < V3.heap.size := hzl
  obtain ⟨rb, hrb⟩ : ∃ rb, V3.heap.size = rb := ⟨_, rfl⟩
  rw [hrb] at HY5 hrb5 ⊢
  clear Z5 B5 Y5 HB3 HS3 HX3 HBL3 HZ3 hzl hVg3 hrb
  go_wp2_with fail
  refine (sumOf_any (some ⟨g, o, none⟩) (tz40 ++ R) m c hBd (by unfold maxLen; omega) V5 HB5.out.rd).mono ?_
  rintro e v6 ⟨rfl, hb6, hx6⟩
  have HZ6 : Hid (v6.heap[w.heap.size]? = some (.cells zerL.toArray 46 (0, 0))) := blk_below hb6 HZ5.out
  have HY6 : Hid (v6.heap[rb]? = some (.cells #[.slice (some ⟨g, o + 4, none⟩) (m - 4) (c - 4)] 35 (0, 0))) := blk_below hb6 HY5.out
  have HBL6 : Hid (Below w.heap.size w v6) := HBL5.out.trans (hb6.mono HBL5.out.size)
  have HS6 : Hid (AtB v6 g (o + m) Sm) := HS5.out.mv hVg5 hb6
  have HQ6 : Hid (AtB v6 V5.heap.size 0 (beB 4 (smB (tz40 ++ R)))) := AtB.of_bx hx6
  clear HZ5 HY5 HBL5 HB5 HS5 hb6 hx6
  go_wp2_with fail
  refine (equal_any g (o + m) V5.heap.size 0 4 4 (c - m) 4 Sm (beB 4 (smB (tz40 ++ R))) hSm (beB_len _ _) v6 HS6.out HQ6.out).mono ?_
  rintro e w' ⟨rfl, hw⟩
  obtain rfl := hw.symm
  clear hw HQ6 HS6
  rw [hne]
  have HX7 : Hid (Bx v6 w.heap.size zerL) := bx_of_heap HZ6.out
  go_wp2_with (refine wpList_store_mid rfl 46 _ _ rfl w.heap.size 0 zerL.toArray rfl rfl HX7.out.there (by kernel_rfl) one_zer ?_; refine gen_list (fun V => Bx V w.heap.size zerL ∧ Below w.heap.size w V) ⟨HX7.out.setAll zerL rfl, below_setCells (Nat.le_refl _) _ _ _ HBL6.out⟩ ?_; rintro V9 ⟨X9, B9⟩)
  exact bodyPost_ret (v := .tuple #[.agg zerL.toArray, .int .i64 22]) (results_cell2 rfl _ _ _ _ _ rfl rfl (run_loadVar_mid _ _ _ _ zerL _ X9.all Tryd.underlying46 rfl (by kernel_rfl))) rfl ⟨rfl, B9⟩

end Go.Proofs.YtcgcljfdfimfgaaDoor
/- One bit of a table's bytes is turned: mathematics; contract: the reference's Count. -/
namespace Go.Proofs.YtcgcljfdfimfgaaDoor
open Go.RowKit Sr
set_option linter.unusedVariables false

/-- what a table's bytes are, where one byte is another one. -/
theorem turned (R : List UInt8) (p : Nat) (x y : UInt8) (hx : ((tz40 ++ R) ++ beB 4 (smB (tz40 ++ R)))[p]? = some x) (hne : y ≠ x) :
    (p < 4 ∧ ∃ Bd Sm, ((tz40 ++ R) ++ beB 4 (smB (tz40 ++ R))).set p y = Bd ++ Sm ∧ Bd.length = (tz40 ++ R).length ∧ Sm.length = 4 ∧ tz40.isPrefixOf Bd = false) ∨
    (∃ R' Sm, ((tz40 ++ R) ++ beB 4 (smB (tz40 ++ R))).set p y = (tz40 ++ R') ++ Sm ∧ (tz40 ++ R').length = (tz40 ++ R).length ∧ Sm.length = 4 ∧ (Sm == beB 4 (smB (tz40 ++ R'))) = false) := by
  obtain ⟨S, hS⟩ : ∃ S, beB 4 (smB (tz40 ++ R)) = S := ⟨_, rfl⟩
  have hSl : S.length = 4 := by rw [← hS]; exact beB_len 4 _
  have ht : tz40.length = 4 := rfl
  by_cases h1 : p < 4
  · refine .inl ⟨h1, (tz40 ++ R).set p y, S, ?_, by simp, hSl, ?_⟩
    · rw [hS, List.set_append_left _ _ (by simp [ht]; omega)]
    · have hx2 : tz40[p]? = some x := by rw [List.getElem?_append_left (by simp [ht]; omega), List.getElem?_append_left (by omega)] at hx; exact hx
      rcases (show p = 0 ∨ p = 1 ∨ p = 2 ∨ p = 3 by omega) with q | q | q | q <;> subst q <;> simp [tz40] at hx2 <;> subst hx2 <;> simp [tz40, List.isPrefixOf, Ne.symm hne]
  · refine .inr ?_
    by_cases h2 : p < (tz40 ++ R).length
    · have h3 : p - 4 < R.length := by rw [List.length_append, ht] at h2; omega
      have hx2 : R[p - 4]? = some x := by rw [List.getElem?_append_left h2, List.getElem?_append_right (by omega), ht] at hx; exact hx
      refine ⟨R.set (p - 4) y, S, ?_, by simp, hSl, ?_⟩
      · rw [hS, List.set_append_left _ _ h2, List.set_append_right _ _ (by omega), ht]
      · rw [beq_eq_false_iff_ne]
        intro e
        rw [← hS] at e
        have e2 := beB4_inj (smB_lt _) (smB_lt _) e
        obtain ⟨hl, he⟩ := List.getElem?_eq_some_iff.1 hx2
        have e3 : R = R.take (p - 4) ++ x :: R.drop (p - 4 + 1) := by
          have := (List.take_append_drop (p - 4) R).symm
          rwa [List.drop_eq_getElem_cons hl, he] at this
        have e4 : R.set (p - 4) y = R.take (p - 4) ++ y :: R.drop (p - 4 + 1) := by rw [List.set_eq_take_append_cons_drop, if_pos hl]
        rw [e4] at e2
        have e5 : smB (tz40 ++ R) = smB (tz40 ++ (R.take (p - 4) ++ x :: R.drop (p - 4 + 1))) := by rw [← e3]
        rw [e5, ← List.append_assoc, ← List.append_assoc] at e2
        exact smB_ne _ _ x y (Ne.symm hne) e2
    · refine ⟨R, S.set (p - (tz40 ++ R).length) y, ?_, rfl, by simp [hSl], ?_⟩
      · rw [hS, List.set_append_right _ _ (by omega)]
      · rw [beq_eq_false_iff_ne, hS]
        intro e
        rw [hS, List.getElem?_append_right (by omega)] at hx
        have := congrArg (fun l => l[p - (tz40 ++ R).length]?) e
        rw [List.getElem?_set_self (by exact (List.getElem?_eq_some_iff.1 hx).1), hx] at this
        exact hne (by cases this; rfl)

set_option maxRecDepth 100000 in
set_option maxHeartbeats 4000000 in
theorem cnt_a (k n : Int) (hn : 1 ≤ n) (h : 0 ≤ k.tmod n) (w : World) :
    Calls Tryd.prog 7 #[.int .i64 k, .int .i64 n] w fun r' w' => r' = .returned (.int .i64 (k.tmod n)) ∧ w' = w := by
  have h1 : ¬ k.tmod n < 0 := by omega
  have h2 : ¬ n < 1 := by omega
  have h3 : ¬ n = 0 := by omega
  go_enter Tryd.func7, Tryd.ntmps7
  go_wp2
  go_ret
  exact ⟨rfl, rfl⟩

set_option maxRecDepth 100000 in
set_option maxHeartbeats 4000000 in
theorem cnt_b (k n : Int) (hn : 1 ≤ n) (hn2 : n ≤ 9223372036854775807) (h : k.tmod n < 0) (h1 : -n < k.tmod n) (w : World) :
    Calls Tryd.prog 7 #[.int .i64 k, .int .i64 n] w fun r' w' => r' = .returned (.int .i64 (k.tmod n + n)) ∧ w' = w := by
  have h2 : ¬ n < 1 := by omega
  have h3 : ¬ n = 0 := by omega
  have h4 : IntKind.i64.wrap (k.tmod n + n) = k.tmod n + n := by rw [IntKind.wrap_i64]; omega
  go_enter Tryd.func7, Tryd.ntmps7
  go_wp2
  go_ret
  exact ⟨rfl, rfl⟩

theorem cnt_any (k n : Int) (hn : 1 ≤ n) (hn2 : n ≤ 9223372036854775807) : ∃ c : Int, 0 ≤ c ∧ c < n ∧ ∀ w : World, Calls Tryd.prog 7 #[.int .i64 k, .int .i64 n] w fun r' w' => r' = .returned (.int .i64 c) ∧ w' = w := by
  have h1 := Int.tmod_lt_of_pos k (show (0 : Int) < n by omega)
  have h2 := Int.tmod_lt_of_pos (-k) (show (0 : Int) < n by omega)
  rw [Int.neg_tmod] at h2
  rcases Int.lt_or_le (k.tmod n) 0 with h | h
  · exact ⟨k.tmod n + n, by omega, by omega, fun w => cnt_b k n hn hn2 h (by omega) w⟩
  · exact ⟨k.tmod n, h, h1, fun w => cnt_a k n hn h w⟩

end Go.Proofs.YtcgcljfdfimfgaaDoor
