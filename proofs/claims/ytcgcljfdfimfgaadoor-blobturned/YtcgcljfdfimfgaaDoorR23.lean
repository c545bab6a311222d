import Derived.Test.YtcgcljfdfimfgaaDoorR22
/- Contract: zone.rightFoot of any table. -/
namespace Go.Proofs.YtcgcljfdfimfgaaDoor
open Go.RowKit Sr
open _root_.Go.Proofs.YtcgcljfdfimfgaaDoor.Fn (bel_lens)
set_option linter.unusedVariables false

set_option maxRecDepth 100000 in
set_option maxHeartbeats 4000000 in
theorem rf_year (t : TbR) (sv : Value) (y : Int) (hy : y < 1800 ∨ 2110 < y) (YA : Hid (∀ w : World, Cvl.Lens w → Calls Tryd.prog 40 #[.int .i64 t.foot.fr] w fun e w' => e = .returned (.int .i64 y) ∧ w' = w)) (w : World) (HL : Hid (Cvl.Lens w)) :
    Calls Tryd.prog 24 #[.agg (tbL t sv).toArray] w fun e w' => e = .returned (.bool false) ∧ Below w.heap.size w w' := by
  have X1 : Hid (Bx (w.alloc (.cells (tbL t sv).toArray 46)) w.heap.size (tbL t sv)) := Bx.new w (tbL t sv) 46
  have B1 : Hid (Below w.heap.size w (w.alloc (.cells (tbL t sv).toArray 46))) := (Below.refl _ _).alloc (Nat.le_refl _) _
  have S1 : Hid ((w.alloc (.cells (tbL t sv).toArray 46)).heap.size = w.heap.size + 1) := World.size_alloc _ _
  obtain ⟨FL, hFL⟩ : ∃ FL, Fn.fL t.foot = FL := ⟨_, rfl⟩
  have hF19 : FL.length = 19 := by rw [← hFL]; rfl
  have hA19 : FL.toArray.size = 19 := by simp [hF19]
  have hone : FL.toArray.all (·.oneCell') = true := by rw [← hFL]; simp [Fn.fL, Value.oneCell']
  have hF1 : FL[1]? = some (.int .i64 t.foot.fr) := by rw [← hFL]; rfl
  go_enter Tryd.func24, Tryd.ntmps24
  generalize hUA : (tbL t sv).toArray = UA at *
  go_upto_region 1 with fail
  refine gen_code (fun V => Bx V w.heap.size (tbL t sv) ∧ Below w.heap.size w V ∧ V.heap.size = w.heap.size + 1) ⟨X1.out, B1.out, S1.out⟩ ?_
  clear X1 B1 S1
  rintro V ⟨XV, BV, SV⟩
  have HR : Hid (V.rangeAt w.heap.size 6 FL) := by
    show V.rangeAt _ _ _
    rw [← hFL]
    exact XV.rng (.string t.nm :: (trC t.first ++ [sv])) (Fn.fL t.foot) [] rfl
  have X2 : Hid (Bx (V.alloc (.cells [.bool false, .int .i64 0, .int .i64 0, .int .i64 0, .int .i64 0, .int .i64 0, .int .i64 0, .int .i64 0, .int .u8 0, .int .i64 0, .string ⟨#[]⟩, .int .i64 0, .int .i64 0, .int .i64 0, .int .i64 0, .int .i64 0, .int .u8 0, .int .i64 0, .string ⟨#[]⟩].toArray 44)) (w.heap.size + 1) [.bool false, .int .i64 0, .int .i64 0, .int .i64 0, .int .i64 0, .int .i64 0, .int .i64 0, .int .i64 0, .int .u8 0, .int .i64 0, .string ⟨#[]⟩, .int .i64 0, .int .i64 0, .int .i64 0, .int .i64 0, .int .i64 0, .int .u8 0, .int .i64 0, .string ⟨#[]⟩]) := Bx.newAt V _ 44 _ SV
  have HTH : Hid ((V.alloc (.cells [.bool false, .int .i64 0, .int .i64 0, .int .i64 0, .int .i64 0, .int .i64 0, .int .i64 0, .int .i64 0, .int .u8 0, .int .i64 0, .string ⟨#[]⟩, .int .i64 0, .int .i64 0, .int .i64 0, .int .i64 0, .int .i64 0, .int .u8 0, .int .i64 0, .string ⟨#[]⟩].toArray 44)).there (w.heap.size + 1) 0 FL.toArray.size) := by show World.there _ _ _ _; rw [hA19]; exact X2.out.there
  have B2 : Hid (Below w.heap.size w (V.alloc (.cells [.bool false, .int .i64 0, .int .i64 0, .int .i64 0, .int .i64 0, .int .i64 0, .int .i64 0, .int .i64 0, .int .u8 0, .int .i64 0, .string ⟨#[]⟩, .int .i64 0, .int .i64 0, .int .i64 0, .int .i64 0, .int .i64 0, .int .u8 0, .int .i64 0, .string ⟨#[]⟩].toArray 44))) := BV.alloc BV.size _
  have X3 : Hid (Bx (V.alloc (.cells [.bool false, .int .i64 0, .int .i64 0, .int .i64 0, .int .i64 0, .int .i64 0, .int .i64 0, .int .i64 0, .int .u8 0, .int .i64 0, .string ⟨#[]⟩, .int .i64 0, .int .i64 0, .int .i64 0, .int .i64 0, .int .i64 0, .int .u8 0, .int .i64 0, .string ⟨#[]⟩].toArray 44)) w.heap.size (tbL t sv)) := XV.alloc _
  clear XV BV
  go_upto_region 2 with (first | (refine wpList_load_mid rfl 44 _ rfl w.heap.size 6 rfl FL _ HR.out Tryd.underlying44 rfl (by rw [hF19]; kernel_rfl) ?_) | (refine wpList_store_mid rfl 44 _ _ rfl (w.heap.size + 1) 0 FL.toArray rfl rfl HTH.out (by rw [hA19]; kernel_rfl) hone ?_; refine gen_list (fun V => Bx V (w.heap.size + 1) FL ∧ Below w.heap.size w V ∧ Bx V w.heap.size (tbL t sv)) ⟨X2.out.setAll FL (by rw [hF19]; rfl), below_setCells (Nat.le_succ _) _ _ _ B2.out, X3.out.setOther (by omega) FL 0⟩ ?_; clear X2 B2 X3 HTH HR SV; rintro V2 ⟨XF, BV, XV⟩) | fail)
  have f1 := XF.c 1 hF1
  have HLV : Hid (Cvl.Lens V2) := bel_lens BV HL.out
  have HXF : Hid (Bx V2 (w.heap.size + 1) FL) := XF
  have HXV : Hid (Bx V2 w.heap.size (tbL t sv)) := XV
  have HBV : Hid (Below w.heap.size w V2) := BV
  clear XF XV BV
  go_wp2_with fail
  refine (YA.out V2 HLV.out).mono ?_
  rintro e w1 ⟨rfl, hw1⟩
  obtain rfl := hw1.symm
  clear hw1
  go_wp2
  all_goals (first | (go_ret; exact ⟨rfl, HBV.out⟩) | skip)

set_option maxRecDepth 100000 in
set_option maxHeartbeats 4000000 in
theorem rf_last (t : TbR) (sv : Value) (y : Int) (hy1 : 1800 ≤ y) (hy2 : y ≤ 2110) (YA : Hid (∀ w : World, Cvl.Lens w → Calls Tryd.prog 40 #[.int .i64 t.foot.fr] w fun e w' => e = .returned (.int .i64 y) ∧ w' = w)) (x : TrR) (hx : t.trs[t.trs.length - 1]? = some x) (hle : t.foot.fr ≤ x.at_) (w : World) (HL : Hid (Cvl.Lens w)) (HT : Hid (TrAt w sv t.trs)) :
    Calls Tryd.prog 24 #[.agg (tbL t sv).toArray] w fun e w' => e = .returned (.bool false) ∧ Below w.heap.size w w' := by
  obtain ⟨⟨ao, c, hsv⟩, hml, _⟩ := HT.out
  obtain ⟨n, hn⟩ : ∃ n, t.trs.length = n := ⟨_, rfl⟩
  rw [hn] at hsv hml
  subst hsv
  unfold maxLen at hml
  obtain ⟨g, o, c', hsv9, hrg⟩ := HT.out.row hx
  rw [hn] at hsv9 hrg
  simp only [Value.slice.injEq, true_and] at hsv9
  obtain ⟨rfl, rfl⟩ := hsv9
  have hnp : 0 < n := by have := (List.getElem?_eq_some_iff.1 hx).1; omega
  have hg : g < w.heap.size := by
    rcases HT.out.2.2 with h0 | ⟨g', o', c9, e9, h9, _⟩
    · rw [h0] at hn; simp at hn; omega
    · simp only [Value.slice.injEq, Option.some.injEq, Addr.mk.injEq] at e9; omega
  have hwr : IntKind.i64.wrap ((n : Int) - 1) = (n : Int) - 1 := by rw [IntKind.wrap_i64]; omega
  have X1 : Hid (Bx (w.alloc (.cells (tbL t (.slice (some ⟨g, o, none⟩) n c)).toArray 46)) w.heap.size (tbL t (.slice (some ⟨g, o, none⟩) n c))) := Bx.new w (tbL t (.slice (some ⟨g, o, none⟩) n c)) 46
  have B1 : Hid (Below w.heap.size w (w.alloc (.cells (tbL t (.slice (some ⟨g, o, none⟩) n c)).toArray 46))) := (Below.refl _ _).alloc (Nat.le_refl _) _
  have S1 : Hid ((w.alloc (.cells (tbL t (.slice (some ⟨g, o, none⟩) n c)).toArray 46)).heap.size = w.heap.size + 1) := World.size_alloc _ _
  obtain ⟨FL, hFL⟩ : ∃ FL, Fn.fL t.foot = FL := ⟨_, rfl⟩
  have hF19 : FL.length = 19 := by rw [← hFL]; rfl
  have hA19 : FL.toArray.size = 19 := by simp [hF19]
  have hone : FL.toArray.all (·.oneCell') = true := by rw [← hFL]; simp [Fn.fL, Value.oneCell']
  have hF1 : FL[1]? = some (.int .i64 t.foot.fr) := by rw [← hFL]; rfl
  go_enter Tryd.func24, Tryd.ntmps24
  generalize hUA : (tbL t (.slice (some ⟨g, o, none⟩) n c)).toArray = UA at *
  go_upto_region 1 with fail
  refine gen_code (fun V => Bx V w.heap.size (tbL t (.slice (some ⟨g, o, none⟩) n c)) ∧ Below w.heap.size w V ∧ V.heap.size = w.heap.size + 1) ⟨X1.out, B1.out, S1.out⟩ ?_
  clear X1 B1 S1
  rintro V ⟨XV, BV, SV⟩
  have HR : Hid (V.rangeAt w.heap.size 6 FL) := by
    show V.rangeAt _ _ _
    rw [← hFL]
    exact XV.rng (.string t.nm :: (trC t.first ++ [.slice (some ⟨g, o, none⟩) n c])) (Fn.fL t.foot) [] rfl
  have X2 : Hid (Bx (V.alloc (.cells [.bool false, .int .i64 0, .int .i64 0, .int .i64 0, .int .i64 0, .int .i64 0, .int .i64 0, .int .i64 0, .int .u8 0, .int .i64 0, .string ⟨#[]⟩, .int .i64 0, .int .i64 0, .int .i64 0, .int .i64 0, .int .i64 0, .int .u8 0, .int .i64 0, .string ⟨#[]⟩].toArray 44)) (w.heap.size + 1) [.bool false, .int .i64 0, .int .i64 0, .int .i64 0, .int .i64 0, .int .i64 0, .int .i64 0, .int .i64 0, .int .u8 0, .int .i64 0, .string ⟨#[]⟩, .int .i64 0, .int .i64 0, .int .i64 0, .int .i64 0, .int .i64 0, .int .u8 0, .int .i64 0, .string ⟨#[]⟩]) := Bx.newAt V _ 44 _ SV
  have HTH : Hid ((V.alloc (.cells [.bool false, .int .i64 0, .int .i64 0, .int .i64 0, .int .i64 0, .int .i64 0, .int .i64 0, .int .i64 0, .int .u8 0, .int .i64 0, .string ⟨#[]⟩, .int .i64 0, .int .i64 0, .int .i64 0, .int .i64 0, .int .i64 0, .int .u8 0, .int .i64 0, .string ⟨#[]⟩].toArray 44)).there (w.heap.size + 1) 0 FL.toArray.size) := by show World.there _ _ _ _; rw [hA19]; exact X2.out.there
  have B2 : Hid (Below w.heap.size w (V.alloc (.cells [.bool false, .int .i64 0, .int .i64 0, .int .i64 0, .int .i64 0, .int .i64 0, .int .i64 0, .int .i64 0, .int .u8 0, .int .i64 0, .string ⟨#[]⟩, .int .i64 0, .int .i64 0, .int .i64 0, .int .i64 0, .int .i64 0, .int .u8 0, .int .i64 0, .string ⟨#[]⟩].toArray 44))) := BV.alloc BV.size _
  have X3 : Hid (Bx (V.alloc (.cells [.bool false, .int .i64 0, .int .i64 0, .int .i64 0, .int .i64 0, .int .i64 0, .int .i64 0, .int .i64 0, .int .u8 0, .int .i64 0, .string ⟨#[]⟩, .int .i64 0, .int .i64 0, .int .i64 0, .int .i64 0, .int .i64 0, .int .u8 0, .int .i64 0, .string ⟨#[]⟩].toArray 44)) w.heap.size (tbL t (.slice (some ⟨g, o, none⟩) n c))) := XV.alloc _
  clear XV BV
  go_upto_region 2 with (first | (refine wpList_load_mid rfl 44 _ rfl w.heap.size 6 rfl FL _ HR.out Tryd.underlying44 rfl (by rw [hF19]; kernel_rfl) ?_) | (refine wpList_store_mid rfl 44 _ _ rfl (w.heap.size + 1) 0 FL.toArray rfl rfl HTH.out (by rw [hA19]; kernel_rfl) hone ?_; refine gen_list (fun V => Bx V (w.heap.size + 1) FL ∧ Below w.heap.size w V ∧ Bx V w.heap.size (tbL t (.slice (some ⟨g, o, none⟩) n c))) ⟨X2.out.setAll FL (by rw [hF19]; rfl), below_setCells (Nat.le_succ _) _ _ _ B2.out, X3.out.setOther (by omega) FL 0⟩ ?_; clear X2 B2 X3 HTH HR SV; rintro V2 ⟨XF, BV, XV⟩) | fail)
  have f1 := XF.c 1 hF1
  have HLV : Hid (Cvl.Lens V2) := bel_lens BV HL.out
  have HXF : Hid (Bx V2 (w.heap.size + 1) FL) := XF
  have HXV : Hid (Bx V2 w.heap.size (tbL t (.slice (some ⟨g, o, none⟩) n c))) := XV
  have HBV : Hid (Below w.heap.size w V2) := BV
  clear XF XV BV
  go_wp2_with fail
  refine (YA.out V2 HLV.out).mono ?_
  rintro e w1 ⟨rfl, hw1⟩
  obtain rfl := hw1.symm
  clear hw1
  have v5 := HXV.out.c 5 (v := .slice (some ⟨g, o, none⟩) n c) rfl
  go_upto_region 6 with fail
  have HS6 : Hid ((fun W : World => W.cell? ⟨w.heap.size + 1, 1, none⟩ = some (.int .i64 t.foot.fr) ∧ W.cell? ⟨w.heap.size, 5, none⟩ = some (.slice (some ⟨g, o, none⟩) n c) ∧ W.cell? ⟨g, o + (n - 1) * 4, none⟩ = some (.int .i64 x.at_)) V2) := ⟨f1, v5, (HBV.out.cell (p := ⟨g, o + (n - 1) * 4, none⟩) hg).trans (hrg 0 _ rfl)⟩
  refine wp_region_held_drew (S := (fun W : World => W.cell? ⟨w.heap.size + 1, 1, none⟩ = some (.int .i64 t.foot.fr) ∧ W.cell? ⟨w.heap.size, 5, none⟩ = some (.slice (some ⟨g, o, none⟩) n c) ∧ W.cell? ⟨g, o + (n - 1) * 4, none⟩ = some (.int .i64 x.at_))) (by kernel_rfl) (by simpa [go_sem] using HS6.out) (fun hHeld => ?_)
  refine wpAnyH_take (i := 0) (v := ?_) (oi := { dst := some 22, op := _, type := _, pos := _, after := _, guard := none }) rfl (by kernel_rfl) (by kernel_rfl) (by kernel_rfl) (fun _ _ _ h => h) (Or.inl ⟨by kernel_rfl, ?_⟩) (by assumption) ?_
  case refine_2 => (intro w9 hSw; clear hSw; go_simp; try with_reducible rfl)
  simp only [Act.put, List.setIfInBounds_toArray, List.set_cons_zero, List.set_cons_succ]
  refine wpAnyH_take (i := 1) (v := ?_) (oi := { dst := some 23, op := _, type := _, pos := _, after := _, guard := none }) rfl (by kernel_rfl) (by kernel_rfl) (by kernel_rfl) (fun _ _ _ h => h) (Or.inl ⟨by kernel_rfl, ?_⟩) (by assumption) ?_
  case refine_2 => (intro w9 hSw; clear hSw; go_simp; try with_reducible rfl)
  simp only [Act.put, List.setIfInBounds_toArray, List.set_cons_zero, List.set_cons_succ]
  refine wpAnyH_take (i := 2) (v := ?_) (oi := { dst := some 24, op := _, type := _, pos := _, after := _, guard := none }) rfl (by kernel_rfl) (by kernel_rfl) (by kernel_rfl) (fun _ _ _ h => h) (Or.inl ⟨by kernel_rfl, ?_⟩) (by assumption) ?_
  case refine_2 => (intro w9 hSw; clear hSw; go_simp; try with_reducible rfl)
  simp only [Act.put, List.setIfInBounds_toArray, List.set_cons_zero, List.set_cons_succ]
  refine wpAnyH_take (i := 3) (v := ?_) (oi := { dst := some 25, op := _, type := _, pos := _, after := _, guard := some (2, true) }) rfl (by kernel_rfl) (by kernel_rfl) (by kernel_rfl) (fun _ _ _ h => h) (Or.inl ⟨by kernel_rfl, ?_⟩) (by assumption) ?_
  case refine_2 => (intro w9 hSw; clear hSw; go_simp; try with_reducible rfl)
  simp only [Act.put, List.setIfInBounds_toArray, List.set_cons_zero, List.set_cons_succ]
  refine wpAnyH_take (i := 4) (v := ?_) (oi := { dst := some 26, op := _, type := _, pos := _, after := _, guard := some (2, true) }) rfl (by kernel_rfl) (by kernel_rfl) (by kernel_rfl) (fun _ _ _ h => h) (Or.inl ⟨by kernel_rfl, ?_⟩) (by assumption) ?_
  case refine_2 => (intro w9 hSw; obtain ⟨s1, s2, s3⟩ := hSw; go_simp; try with_reducible rfl)
  simp only [Act.put, List.setIfInBounds_toArray, List.set_cons_zero, List.set_cons_succ]
  refine wpAnyH_take (i := 5) (v := ?_) (oi := { dst := some 27, op := _, type := _, pos := _, after := _, guard := some (2, true) }) rfl (by kernel_rfl) (by kernel_rfl) (by kernel_rfl) (fun _ _ _ h => h) (Or.inl ⟨by kernel_rfl, ?_⟩) (by assumption) ?_
  case refine_2 => (intro w9 hSw; clear hSw; go_simp; try with_reducible rfl)
  simp only [Act.put, List.setIfInBounds_toArray, List.set_cons_zero, List.set_cons_succ]
  refine wpAnyH_take (i := 6) (v := ?_) (oi := { dst := some 28, op := _, type := _, pos := _, after := _, guard := some (2, true) }) rfl (by kernel_rfl) (by kernel_rfl) (by kernel_rfl) (fun _ _ _ h => h) (Or.inl ⟨by kernel_rfl, ?_⟩) (by assumption) ?_
  case refine_2 => (intro w9 hSw; obtain ⟨s1, s2, s3⟩ := hSw; go_simp; try with_reducible rfl)
  simp only [Act.put, List.setIfInBounds_toArray, List.set_cons_zero, List.set_cons_succ]
  refine wpAnyH_take (i := 7) (v := ?_) (oi := { dst := some 29, op := _, type := _, pos := _, after := _, guard := some (2, true) }) rfl (by kernel_rfl) (by kernel_rfl) (by kernel_rfl) (fun _ _ _ h => h) (Or.inl ⟨by kernel_rfl, ?_⟩) (by assumption) ?_
  case refine_2 => (intro w9 hSw; clear hSw; go_simp; try with_reducible rfl)
  simp only [Act.put, List.setIfInBounds_toArray, List.set_cons_zero, List.set_cons_succ]
  refine wpAnyH_take (i := 8) (v := ?_) (oi := { dst := some 30, op := _, type := _, pos := _, after := _, guard := some (2, true) }) rfl (by kernel_rfl) (by kernel_rfl) (by kernel_rfl) (fun _ _ _ h => h) (Or.inl ⟨by kernel_rfl, ?_⟩) (by assumption) ?_
  case refine_2 => (intro w9 hSw; clear hSw; go_simp; try with_reducible rfl)
  simp only [Act.put, List.setIfInBounds_toArray, List.set_cons_zero, List.set_cons_succ]
  refine wpAnyH_take (i := 9) (v := .pointer (some ⟨g, o + (n - 1) * 4, none⟩)) (oi := { dst := some 31, op := _, type := _, pos := _, after := _, guard := some (2, true) }) rfl (by kernel_rfl) (by kernel_rfl) (by kernel_rfl) (fun _ _ _ h => h) (Or.inl ⟨by kernel_rfl, ?_⟩) (by assumption) ?_
  case refine_1 => (intro w9 hSw; clear hSw; go_simp; intro h9; exact absurd (h9 (by omega)) (by omega))
  simp only [Act.put, List.setIfInBounds_toArray, List.set_cons_zero, List.set_cons_succ]
  refine wpAnyH_take (i := 10) (v := ?_) (oi := { dst := some 32, op := _, type := _, pos := _, after := _, guard := some (2, true) }) rfl (by kernel_rfl) (by kernel_rfl) (by kernel_rfl) (fun _ _ _ h => h) (Or.inl ⟨by kernel_rfl, ?_⟩) (by assumption) ?_
  case refine_2 => (intro w9 hSw; clear hSw; go_simp; try with_reducible rfl)
  simp only [Act.put, List.setIfInBounds_toArray, List.set_cons_zero, List.set_cons_succ]
  refine wpAnyH_take (i := 11) (v := ?_) (oi := { dst := some 33, op := _, type := _, pos := _, after := _, guard := some (2, true) }) rfl (by kernel_rfl) (by kernel_rfl) (by kernel_rfl) (fun _ _ _ h => h) (Or.inl ⟨by kernel_rfl, ?_⟩) (by assumption) ?_
  case refine_2 => (intro w9 hSw; obtain ⟨s1, s2, s3⟩ := hSw; go_simp; try with_reducible rfl)
  simp only [Act.put, List.setIfInBounds_toArray, List.set_cons_zero, List.set_cons_succ]
  refine wpAnyH_take (i := 12) (v := ?_) (oi := { dst := some 34, op := _, type := _, pos := _, after := _, guard := some (2, true) }) rfl (by kernel_rfl) (by kernel_rfl) (by kernel_rfl) (fun _ _ _ h => h) (Or.inl ⟨by kernel_rfl, ?_⟩) (by assumption) ?_
  case refine_2 => (intro w9 hSw; clear hSw; go_simp; try with_reducible rfl)
  simp only [Act.put, List.setIfInBounds_toArray, List.set_cons_zero, List.set_cons_succ]
  refine wpAnyH_take (i := 13) (v := ?_) (oi := { dst := some 35, op := _, type := _, pos := _, after := _, guard := none }) rfl (by kernel_rfl) (by kernel_rfl) (by kernel_rfl) (fun _ _ _ h => h) (Or.inl ⟨by kernel_rfl, ?_⟩) (by assumption) ?_
  case refine_2 => (intro w9 hSw; clear hSw; go_simp; try with_reducible rfl)
  simp only [Act.put, List.setIfInBounds_toArray, List.set_cons_zero, List.set_cons_succ]
  clear hHeld
  refine wpAnyH_done (by kernel_rfl) ?_ _
  go_wp2
  go_ret
  exact ⟨rfl, (HBV.out.trans (((Below.refl _ _).drew).mono HBV.out.size))⟩

set_option maxRecDepth 100000 in
set_option maxHeartbeats 4000000 in
theorem rf_some (t : TbR) (sv : Value) (y : Int) (hy1 : 1800 ≤ y) (hy2 : y ≤ 2110) (YA : Hid (∀ w : World, Cvl.Lens w → Calls Tryd.prog 40 #[.int .i64 t.foot.fr] w fun e w' => e = .returned (.int .i64 y) ∧ w' = w)) (p : Fn.Tr) (er : Int) (FA : Hid (∀ w : World, Cvl.Lens w → Clk.Tab w → Calls Tryd.prog 41 #[.agg (Fn.fL t.foot).toArray, .int .i64 t.foot.fr] w fun e w' => e = .returned (.tuple #[.agg #[.int .i64 p.t, .int .i64 p.o, .bool p.d, .string p.a], .int .i64 er]) ∧ Below w.heap.size w w')) (x : TrR) (hx : t.trs[t.trs.length - 1]? = some x) (hle : ¬ t.foot.fr ≤ x.at_) (w : World) (HL : Hid (Cvl.Lens w)) (HTb : Hid (Clk.Tab w)) (HT : Hid (TrAt w sv t.trs)) :
    Calls Tryd.prog 24 #[.agg (tbL t sv).toArray] w fun e w' => e = .returned (.bool (decide (er = 0) && decide (p.t = t.foot.fr))) ∧ Below w.heap.size w w' := by
  obtain ⟨⟨ao, c, hsv⟩, hml, _⟩ := HT.out
  obtain ⟨n, hn⟩ : ∃ n, t.trs.length = n := ⟨_, rfl⟩
  rw [hn] at hsv hml
  subst hsv
  unfold maxLen at hml
  obtain ⟨g, o, c', hsv9, hrg⟩ := HT.out.row hx
  rw [hn] at hsv9 hrg
  simp only [Value.slice.injEq, true_and] at hsv9
  obtain ⟨rfl, rfl⟩ := hsv9
  have hnp : 0 < n := by have := (List.getElem?_eq_some_iff.1 hx).1; omega
  have hg : g < w.heap.size := by
    rcases HT.out.2.2 with h0 | ⟨g', o', c9, e9, h9, _⟩
    · rw [h0] at hn; simp at hn; omega
    · simp only [Value.slice.injEq, Option.some.injEq, Addr.mk.injEq] at e9; omega
  have hwr : IntKind.i64.wrap ((n : Int) - 1) = (n : Int) - 1 := by rw [IntKind.wrap_i64]; omega
  have X1 : Hid (Bx (w.alloc (.cells (tbL t (.slice (some ⟨g, o, none⟩) n c)).toArray 46)) w.heap.size (tbL t (.slice (some ⟨g, o, none⟩) n c))) := Bx.new w (tbL t (.slice (some ⟨g, o, none⟩) n c)) 46
  have B1 : Hid (Below w.heap.size w (w.alloc (.cells (tbL t (.slice (some ⟨g, o, none⟩) n c)).toArray 46))) := (Below.refl _ _).alloc (Nat.le_refl _) _
  have S1 : Hid ((w.alloc (.cells (tbL t (.slice (some ⟨g, o, none⟩) n c)).toArray 46)).heap.size = w.heap.size + 1) := World.size_alloc _ _
  obtain ⟨FL, hFL⟩ : ∃ FL, Fn.fL t.foot = FL := ⟨_, rfl⟩
  have hF19 : FL.length = 19 := by rw [← hFL]; rfl
  have hA19 : FL.toArray.size = 19 := by simp [hF19]
  have hone : FL.toArray.all (·.oneCell') = true := by rw [← hFL]; simp [Fn.fL, Value.oneCell']
  have hF1 : FL[1]? = some (.int .i64 t.foot.fr) := by rw [← hFL]; rfl
  go_enter Tryd.func24, Tryd.ntmps24
  generalize hUA : (tbL t (.slice (some ⟨g, o, none⟩) n c)).toArray = UA at *
  go_upto_region 1 with fail
  refine gen_code (fun V => Bx V w.heap.size (tbL t (.slice (some ⟨g, o, none⟩) n c)) ∧ Below w.heap.size w V ∧ V.heap.size = w.heap.size + 1) ⟨X1.out, B1.out, S1.out⟩ ?_
  clear X1 B1 S1
  rintro V ⟨XV, BV, SV⟩
  have HR : Hid (V.rangeAt w.heap.size 6 FL) := by
    show V.rangeAt _ _ _
    rw [← hFL]
    exact XV.rng (.string t.nm :: (trC t.first ++ [.slice (some ⟨g, o, none⟩) n c])) (Fn.fL t.foot) [] rfl
  have X2 : Hid (Bx (V.alloc (.cells [.bool false, .int .i64 0, .int .i64 0, .int .i64 0, .int .i64 0, .int .i64 0, .int .i64 0, .int .i64 0, .int .u8 0, .int .i64 0, .string ⟨#[]⟩, .int .i64 0, .int .i64 0, .int .i64 0, .int .i64 0, .int .i64 0, .int .u8 0, .int .i64 0, .string ⟨#[]⟩].toArray 44)) (w.heap.size + 1) [.bool false, .int .i64 0, .int .i64 0, .int .i64 0, .int .i64 0, .int .i64 0, .int .i64 0, .int .i64 0, .int .u8 0, .int .i64 0, .string ⟨#[]⟩, .int .i64 0, .int .i64 0, .int .i64 0, .int .i64 0, .int .i64 0, .int .u8 0, .int .i64 0, .string ⟨#[]⟩]) := Bx.newAt V _ 44 _ SV
  have HTH : Hid ((V.alloc (.cells [.bool false, .int .i64 0, .int .i64 0, .int .i64 0, .int .i64 0, .int .i64 0, .int .i64 0, .int .i64 0, .int .u8 0, .int .i64 0, .string ⟨#[]⟩, .int .i64 0, .int .i64 0, .int .i64 0, .int .i64 0, .int .i64 0, .int .u8 0, .int .i64 0, .string ⟨#[]⟩].toArray 44)).there (w.heap.size + 1) 0 FL.toArray.size) := by show World.there _ _ _ _; rw [hA19]; exact X2.out.there
  have B2 : Hid (Below w.heap.size w (V.alloc (.cells [.bool false, .int .i64 0, .int .i64 0, .int .i64 0, .int .i64 0, .int .i64 0, .int .i64 0, .int .i64 0, .int .u8 0, .int .i64 0, .string ⟨#[]⟩, .int .i64 0, .int .i64 0, .int .i64 0, .int .i64 0, .int .i64 0, .int .u8 0, .int .i64 0, .string ⟨#[]⟩].toArray 44))) := BV.alloc BV.size _
  have X3 : Hid (Bx (V.alloc (.cells [.bool false, .int .i64 0, .int .i64 0, .int .i64 0, .int .i64 0, .int .i64 0, .int .i64 0, .int .i64 0, .int .u8 0, .int .i64 0, .string ⟨#[]⟩, .int .i64 0, .int .i64 0, .int .i64 0, .int .i64 0, .int .i64 0, .int .u8 0, .int .i64 0, .string ⟨#[]⟩].toArray 44)) w.heap.size (tbL t (.slice (some ⟨g, o, none⟩) n c))) := XV.alloc _
  clear XV BV
  go_upto_region 2 with (first | (refine wpList_load_mid rfl 44 _ rfl w.heap.size 6 rfl FL _ HR.out Tryd.underlying44 rfl (by rw [hF19]; kernel_rfl) ?_) | (refine wpList_store_mid rfl 44 _ _ rfl (w.heap.size + 1) 0 FL.toArray rfl rfl HTH.out (by rw [hA19]; kernel_rfl) hone ?_; refine gen_list (fun V => Bx V (w.heap.size + 1) FL ∧ Below w.heap.size w V ∧ Bx V w.heap.size (tbL t (.slice (some ⟨g, o, none⟩) n c))) ⟨X2.out.setAll FL (by rw [hF19]; rfl), below_setCells (Nat.le_succ _) _ _ _ B2.out, X3.out.setOther (by omega) FL 0⟩ ?_; clear X2 B2 X3 HTH HR SV; rintro V2 ⟨XF, BV, XV⟩) | fail)
  have f1 := XF.c 1 hF1
  have HLV : Hid (Cvl.Lens V2) := bel_lens BV HL.out
  have HXF : Hid (Bx V2 (w.heap.size + 1) FL) := XF
  have HXV : Hid (Bx V2 w.heap.size (tbL t (.slice (some ⟨g, o, none⟩) n c))) := XV
  have HBV : Hid (Below w.heap.size w V2) := BV
  clear XF XV BV
  go_wp2_with fail
  refine (YA.out V2 HLV.out).mono ?_
  rintro e w1 ⟨rfl, hw1⟩
  obtain rfl := hw1.symm
  clear hw1
  have v5 := HXV.out.c 5 (v := .slice (some ⟨g, o, none⟩) n c) rfl
  go_upto_region 6 with fail
  have HS6 : Hid ((fun W : World => W.cell? ⟨w.heap.size + 1, 1, none⟩ = some (.int .i64 t.foot.fr) ∧ W.cell? ⟨w.heap.size, 5, none⟩ = some (.slice (some ⟨g, o, none⟩) n c) ∧ W.cell? ⟨g, o + (n - 1) * 4, none⟩ = some (.int .i64 x.at_)) V2) := ⟨f1, v5, (HBV.out.cell (p := ⟨g, o + (n - 1) * 4, none⟩) hg).trans (hrg 0 _ rfl)⟩
  refine wp_region_held_drew (S := (fun W : World => W.cell? ⟨w.heap.size + 1, 1, none⟩ = some (.int .i64 t.foot.fr) ∧ W.cell? ⟨w.heap.size, 5, none⟩ = some (.slice (some ⟨g, o, none⟩) n c) ∧ W.cell? ⟨g, o + (n - 1) * 4, none⟩ = some (.int .i64 x.at_))) (by kernel_rfl) (by simpa [go_sem] using HS6.out) (fun hHeld => ?_)
  refine wpAnyH_take (i := 0) (v := ?_) (oi := { dst := some 22, op := _, type := _, pos := _, after := _, guard := none }) rfl (by kernel_rfl) (by kernel_rfl) (by kernel_rfl) (fun _ _ _ h => h) (Or.inl ⟨by kernel_rfl, ?_⟩) (by assumption) ?_
  case refine_2 => (intro w9 hSw; clear hSw; go_simp; try with_reducible rfl)
  simp only [Act.put, List.setIfInBounds_toArray, List.set_cons_zero, List.set_cons_succ]
  refine wpAnyH_take (i := 1) (v := ?_) (oi := { dst := some 23, op := _, type := _, pos := _, after := _, guard := none }) rfl (by kernel_rfl) (by kernel_rfl) (by kernel_rfl) (fun _ _ _ h => h) (Or.inl ⟨by kernel_rfl, ?_⟩) (by assumption) ?_
  case refine_2 => (intro w9 hSw; clear hSw; go_simp; try with_reducible rfl)
  simp only [Act.put, List.setIfInBounds_toArray, List.set_cons_zero, List.set_cons_succ]
  refine wpAnyH_take (i := 2) (v := ?_) (oi := { dst := some 24, op := _, type := _, pos := _, after := _, guard := none }) rfl (by kernel_rfl) (by kernel_rfl) (by kernel_rfl) (fun _ _ _ h => h) (Or.inl ⟨by kernel_rfl, ?_⟩) (by assumption) ?_
  case refine_2 => (intro w9 hSw; clear hSw; go_simp; try with_reducible rfl)
  simp only [Act.put, List.setIfInBounds_toArray, List.set_cons_zero, List.set_cons_succ]
  refine wpAnyH_take (i := 3) (v := ?_) (oi := { dst := some 25, op := _, type := _, pos := _, after := _, guard := some (2, true) }) rfl (by kernel_rfl) (by kernel_rfl) (by kernel_rfl) (fun _ _ _ h => h) (Or.inl ⟨by kernel_rfl, ?_⟩) (by assumption) ?_
  case refine_2 => (intro w9 hSw; clear hSw; go_simp; try with_reducible rfl)
  simp only [Act.put, List.setIfInBounds_toArray, List.set_cons_zero, List.set_cons_succ]
  refine wpAnyH_take (i := 4) (v := ?_) (oi := { dst := some 26, op := _, type := _, pos := _, after := _, guard := some (2, true) }) rfl (by kernel_rfl) (by kernel_rfl) (by kernel_rfl) (fun _ _ _ h => h) (Or.inl ⟨by kernel_rfl, ?_⟩) (by assumption) ?_
  case refine_2 => (intro w9 hSw; obtain ⟨s1, s2, s3⟩ := hSw; go_simp; try with_reducible rfl)
  simp only [Act.put, List.setIfInBounds_toArray, List.set_cons_zero, List.set_cons_succ]
  refine wpAnyH_take (i := 5) (v := ?_) (oi := { dst := some 27, op := _, type := _, pos := _, after := _, guard := some (2, true) }) rfl (by kernel_rfl) (by kernel_rfl) (by kernel_rfl) (fun _ _ _ h => h) (Or.inl ⟨by kernel_rfl, ?_⟩) (by assumption) ?_
  case refine_2 => (intro w9 hSw; clear hSw; go_simp; try with_reducible rfl)
  simp only [Act.put, List.setIfInBounds_toArray, List.set_cons_zero, List.set_cons_succ]
  refine wpAnyH_take (i := 6) (v := ?_) (oi := { dst := some 28, op := _, type := _, pos := _, after := _, guard := some (2, true) }) rfl (by kernel_rfl) (by kernel_rfl) (by kernel_rfl) (fun _ _ _ h => h) (Or.inl ⟨by kernel_rfl, ?_⟩) (by assumption) ?_
  case refine_2 => (intro w9 hSw; obtain ⟨s1, s2, s3⟩ := hSw; go_simp; try with_reducible rfl)
  simp only [Act.put, List.setIfInBounds_toArray, List.set_cons_zero, List.set_cons_succ]
  refine wpAnyH_take (i := 7) (v := ?_) (oi := { dst := some 29, op := _, type := _, pos := _, after := _, guard := some (2, true) }) rfl (by kernel_rfl) (by kernel_rfl) (by kernel_rfl) (fun _ _ _ h => h) (Or.inl ⟨by kernel_rfl, ?_⟩) (by assumption) ?_
  case refine_2 => (intro w9 hSw; clear hSw; go_simp; try with_reducible rfl)
  simp only [Act.put, List.setIfInBounds_toArray, List.set_cons_zero, List.set_cons_succ]
  refine wpAnyH_take (i := 8) (v := ?_) (oi := { dst := some 30, op := _, type := _, pos := _, after := _, guard := some (2, true) }) rfl (by kernel_rfl) (by kernel_rfl) (by kernel_rfl) (fun _ _ _ h => h) (Or.inl ⟨by kernel_rfl, ?_⟩) (by assumption) ?_
  case refine_2 => (intro w9 hSw; clear hSw; go_simp; try with_reducible rfl)
  simp only [Act.put, List.setIfInBounds_toArray, List.set_cons_zero, List.set_cons_succ]
  refine wpAnyH_take (i := 9) (v := .pointer (some ⟨g, o + (n - 1) * 4, none⟩)) (oi := { dst := some 31, op := _, type := _, pos := _, after := _, guard := some (2, true) }) rfl (by kernel_rfl) (by kernel_rfl) (by kernel_rfl) (fun _ _ _ h => h) (Or.inl ⟨by kernel_rfl, ?_⟩) (by assumption) ?_
  case refine_1 => (intro w9 hSw; clear hSw; go_simp; intro h9; exact absurd (h9 (by omega)) (by omega))
  simp only [Act.put, List.setIfInBounds_toArray, List.set_cons_zero, List.set_cons_succ]
  refine wpAnyH_take (i := 10) (v := ?_) (oi := { dst := some 32, op := _, type := _, pos := _, after := _, guard := some (2, true) }) rfl (by kernel_rfl) (by kernel_rfl) (by kernel_rfl) (fun _ _ _ h => h) (Or.inl ⟨by kernel_rfl, ?_⟩) (by assumption) ?_
  case refine_2 => (intro w9 hSw; clear hSw; go_simp; try with_reducible rfl)
  simp only [Act.put, List.setIfInBounds_toArray, List.set_cons_zero, List.set_cons_succ]
  refine wpAnyH_take (i := 11) (v := ?_) (oi := { dst := some 33, op := _, type := _, pos := _, after := _, guard := some (2, true) }) rfl (by kernel_rfl) (by kernel_rfl) (by kernel_rfl) (fun _ _ _ h => h) (Or.inl ⟨by kernel_rfl, ?_⟩) (by assumption) ?_
  case refine_2 => (intro w9 hSw; obtain ⟨s1, s2, s3⟩ := hSw; go_simp; try with_reducible rfl)
  simp only [Act.put, List.setIfInBounds_toArray, List.set_cons_zero, List.set_cons_succ]
  refine wpAnyH_take (i := 12) (v := ?_) (oi := { dst := some 34, op := _, type := _, pos := _, after := _, guard := some (2, true) }) rfl (by kernel_rfl) (by kernel_rfl) (by kernel_rfl) (fun _ _ _ h => h) (Or.inl ⟨by kernel_rfl, ?_⟩) (by assumption) ?_
  case refine_2 => (intro w9 hSw; clear hSw; go_simp; try with_reducible rfl)
  simp only [Act.put, List.setIfInBounds_toArray, List.set_cons_zero, List.set_cons_succ]
  refine wpAnyH_take (i := 13) (v := ?_) (oi := { dst := some 35, op := _, type := _, pos := _, after := _, guard := none }) rfl (by kernel_rfl) (by kernel_rfl) (by kernel_rfl) (fun _ _ _ h => h) (Or.inl ⟨by kernel_rfl, ?_⟩) (by assumption) ?_
  case refine_2 => (intro w9 hSw; clear hSw; go_simp; try with_reducible rfl)
  simp only [Act.put, List.setIfInBounds_toArray, List.set_cons_zero, List.set_cons_succ]
  clear hHeld
  refine wpAnyH_done (by kernel_rfl) ?_ _
  go_upto_region 8 with fail
  refine gen_code (fun V => Bx V (w.heap.size + 1) FL ∧ Below w.heap.size w V) ⟨HXF.out.below ((Below.refl _ _).drew), (HBV.out.trans (((Below.refl _ _).drew).mono HBV.out.size))⟩ ?_
  clear HXF HXV HBV HLV f1 v5
  rintro V3 ⟨XF3, B3⟩
  have f1 := XF3.c 1 hF1
  have HX3 : Hid (Bx V3 (w.heap.size + 1) FL) := XF3
  have HB3 : Hid (Below w.heap.size w V3) := B3
  have FA3 := FA.out V3 (bel_lens B3 HL.out) (HTb.out.below B3)
  rw [hFL] at FA3
  clear XF3 B3 FA
  go_upto_region 9 with (first | (refine wpList_load_mid rfl 44 _ rfl (w.heap.size + 1) 0 rfl FL _ HX3.out.all Tryd.underlying44 rfl (by rw [hF19]; kernel_rfl) ?_) | (refine FA3.mono ?_; clear FA3; rintro e w4 ⟨rfl, hb4⟩) | fail)
  refine gen_code (fun V => V.cell? ⟨w.heap.size + 1, 1, none⟩ = some (.int .i64 t.foot.fr) ∧ V.cell? ⟨w4.heap.size, 0, none⟩ = some (.int .i64 p.t) ∧ Below w.heap.size w V) ⟨((HX3.out.below hb4).alloc _).c 1 hF1, (Bx.new w4 [.int .i64 p.t, .int .i64 p.o, .bool p.d, .string p.a] 23).c 0 rfl, (HB3.out.trans (hb4.mono HB3.out.size)).alloc (HB3.out.trans (hb4.mono HB3.out.size)).size _⟩ ?_
  clear hb4 HX3 HB3 f1
  rintro V5 ⟨k1, k2, k3⟩
  have HB5 : Hid (Below w.heap.size w V5) := k3
  clear k3
  by_cases her : er = 0
  · go_wp2
    go_ret
    exact ⟨ret_b9 (by first | (simp [her]; done) | (simp [her]; rfl)), HB5.out⟩
  · go_wp2
    go_ret
    exact ⟨ret_b9 (by first | (simp [her]; done) | (simp [her]; rfl)), HB5.out⟩

set_option maxRecDepth 100000 in
set_option maxHeartbeats 4000000 in
theorem rf_none (t : TbR) (sv : Value) (y : Int) (hy1 : 1800 ≤ y) (hy2 : y ≤ 2110) (YA : Hid (∀ w : World, Cvl.Lens w → Calls Tryd.prog 40 #[.int .i64 t.foot.fr] w fun e w' => e = .returned (.int .i64 y) ∧ w' = w)) (p : Fn.Tr) (er : Int) (FA : Hid (∀ w : World, Cvl.Lens w → Clk.Tab w → Calls Tryd.prog 41 #[.agg (Fn.fL t.foot).toArray, .int .i64 t.foot.fr] w fun e w' => e = .returned (.tuple #[.agg #[.int .i64 p.t, .int .i64 p.o, .bool p.d, .string p.a], .int .i64 er]) ∧ Below w.heap.size w w')) (hx : t.trs = []) (w : World) (HL : Hid (Cvl.Lens w)) (HTb : Hid (Clk.Tab w)) (HT : Hid (TrAt w sv t.trs)) :
    Calls Tryd.prog 24 #[.agg (tbL t sv).toArray] w fun e w' => e = .returned (.bool (decide (er = 0) && decide (p.t = t.foot.fr))) ∧ Below w.heap.size w w' := by
  obtain ⟨⟨ao, c, hsv⟩, hml, _⟩ := HT.out
  obtain ⟨n, hn⟩ : ∃ n, t.trs.length = n := ⟨_, rfl⟩
  rw [hn] at hsv hml
  subst hsv
  unfold maxLen at hml
  have hn0 : n = 0 := by rw [← hn, hx]; rfl
  subst hn0
  have X1 : Hid (Bx (w.alloc (.cells (tbL t (.slice ao 0 c)).toArray 46)) w.heap.size (tbL t (.slice ao 0 c))) := Bx.new w (tbL t (.slice ao 0 c)) 46
  have B1 : Hid (Below w.heap.size w (w.alloc (.cells (tbL t (.slice ao 0 c)).toArray 46))) := (Below.refl _ _).alloc (Nat.le_refl _) _
  have S1 : Hid ((w.alloc (.cells (tbL t (.slice ao 0 c)).toArray 46)).heap.size = w.heap.size + 1) := World.size_alloc _ _
  obtain ⟨FL, hFL⟩ : ∃ FL, Fn.fL t.foot = FL := ⟨_, rfl⟩
  have hF19 : FL.length = 19 := by rw [← hFL]; rfl
  have hA19 : FL.toArray.size = 19 := by simp [hF19]
  have hone : FL.toArray.all (·.oneCell') = true := by rw [← hFL]; simp [Fn.fL, Value.oneCell']
  have hF1 : FL[1]? = some (.int .i64 t.foot.fr) := by rw [← hFL]; rfl
  go_enter Tryd.func24, Tryd.ntmps24
  generalize hUA : (tbL t (.slice ao 0 c)).toArray = UA at *
  go_upto_region 1 with fail
  refine gen_code (fun V => Bx V w.heap.size (tbL t (.slice ao 0 c)) ∧ Below w.heap.size w V ∧ V.heap.size = w.heap.size + 1) ⟨X1.out, B1.out, S1.out⟩ ?_
  clear X1 B1 S1
  rintro V ⟨XV, BV, SV⟩
  have HR : Hid (V.rangeAt w.heap.size 6 FL) := by
    show V.rangeAt _ _ _
    rw [← hFL]
    exact XV.rng (.string t.nm :: (trC t.first ++ [.slice ao 0 c])) (Fn.fL t.foot) [] rfl
  have X2 : Hid (Bx (V.alloc (.cells [.bool false, .int .i64 0, .int .i64 0, .int .i64 0, .int .i64 0, .int .i64 0, .int .i64 0, .int .i64 0, .int .u8 0, .int .i64 0, .string ⟨#[]⟩, .int .i64 0, .int .i64 0, .int .i64 0, .int .i64 0, .int .i64 0, .int .u8 0, .int .i64 0, .string ⟨#[]⟩].toArray 44)) (w.heap.size + 1) [.bool false, .int .i64 0, .int .i64 0, .int .i64 0, .int .i64 0, .int .i64 0, .int .i64 0, .int .i64 0, .int .u8 0, .int .i64 0, .string ⟨#[]⟩, .int .i64 0, .int .i64 0, .int .i64 0, .int .i64 0, .int .i64 0, .int .u8 0, .int .i64 0, .string ⟨#[]⟩]) := Bx.newAt V _ 44 _ SV
  have HTH : Hid ((V.alloc (.cells [.bool false, .int .i64 0, .int .i64 0, .int .i64 0, .int .i64 0, .int .i64 0, .int .i64 0, .int .i64 0, .int .u8 0, .int .i64 0, .string ⟨#[]⟩, .int .i64 0, .int .i64 0, .int .i64 0, .int .i64 0, .int .i64 0, .int .u8 0, .int .i64 0, .string ⟨#[]⟩].toArray 44)).there (w.heap.size + 1) 0 FL.toArray.size) := by show World.there _ _ _ _; rw [hA19]; exact X2.out.there
  have B2 : Hid (Below w.heap.size w (V.alloc (.cells [.bool false, .int .i64 0, .int .i64 0, .int .i64 0, .int .i64 0, .int .i64 0, .int .i64 0, .int .i64 0, .int .u8 0, .int .i64 0, .string ⟨#[]⟩, .int .i64 0, .int .i64 0, .int .i64 0, .int .i64 0, .int .i64 0, .int .u8 0, .int .i64 0, .string ⟨#[]⟩].toArray 44))) := BV.alloc BV.size _
  have X3 : Hid (Bx (V.alloc (.cells [.bool false, .int .i64 0, .int .i64 0, .int .i64 0, .int .i64 0, .int .i64 0, .int .i64 0, .int .i64 0, .int .u8 0, .int .i64 0, .string ⟨#[]⟩, .int .i64 0, .int .i64 0, .int .i64 0, .int .i64 0, .int .i64 0, .int .u8 0, .int .i64 0, .string ⟨#[]⟩].toArray 44)) w.heap.size (tbL t (.slice ao 0 c))) := XV.alloc _
  clear XV BV
  go_upto_region 2 with (first | (refine wpList_load_mid rfl 44 _ rfl w.heap.size 6 rfl FL _ HR.out Tryd.underlying44 rfl (by rw [hF19]; kernel_rfl) ?_) | (refine wpList_store_mid rfl 44 _ _ rfl (w.heap.size + 1) 0 FL.toArray rfl rfl HTH.out (by rw [hA19]; kernel_rfl) hone ?_; refine gen_list (fun V => Bx V (w.heap.size + 1) FL ∧ Below w.heap.size w V ∧ Bx V w.heap.size (tbL t (.slice ao 0 c))) ⟨X2.out.setAll FL (by rw [hF19]; rfl), below_setCells (Nat.le_succ _) _ _ _ B2.out, X3.out.setOther (by omega) FL 0⟩ ?_; clear X2 B2 X3 HTH HR SV; rintro V2 ⟨XF, BV, XV⟩) | fail)
  have f1 := XF.c 1 hF1
  have HLV : Hid (Cvl.Lens V2) := bel_lens BV HL.out
  have HXF : Hid (Bx V2 (w.heap.size + 1) FL) := XF
  have HXV : Hid (Bx V2 w.heap.size (tbL t (.slice ao 0 c))) := XV
  have HBV : Hid (Below w.heap.size w V2) := BV
  clear XF XV BV
  go_wp2_with fail
  refine (YA.out V2 HLV.out).mono ?_
  rintro e w1 ⟨rfl, hw1⟩
  obtain rfl := hw1.symm
  clear hw1
  have v5 := HXV.out.c 5 (v := .slice ao 0 c) rfl
  go_upto_region 6 with fail
  refine wp_region_held_drew (S := (fun W : World => True)) (by kernel_rfl) trivial (fun hHeld => ?_)
  refine wpAnyH_take (i := 0) (v := ?_) (oi := { dst := some 22, op := _, type := _, pos := _, after := _, guard := none }) rfl (by kernel_rfl) (by kernel_rfl) (by kernel_rfl) (fun _ _ _ h => h) (Or.inl ⟨by kernel_rfl, ?_⟩) (by assumption) ?_
  case refine_2 => (intro w9 hSw; clear hSw; go_simp; try with_reducible rfl)
  simp only [Act.put, List.setIfInBounds_toArray, List.set_cons_zero, List.set_cons_succ]
  refine wpAnyH_take (i := 1) (v := ?_) (oi := { dst := some 23, op := _, type := _, pos := _, after := _, guard := none }) rfl (by kernel_rfl) (by kernel_rfl) (by kernel_rfl) (fun _ _ _ h => h) (Or.inl ⟨by kernel_rfl, ?_⟩) (by assumption) ?_
  case refine_2 => (intro w9 hSw; clear hSw; go_simp; try with_reducible rfl)
  simp only [Act.put, List.setIfInBounds_toArray, List.set_cons_zero, List.set_cons_succ]
  refine wpAnyH_take (i := 2) (v := ?_) (oi := { dst := some 24, op := _, type := _, pos := _, after := _, guard := none }) rfl (by kernel_rfl) (by kernel_rfl) (by kernel_rfl) (fun _ _ _ h => h) (Or.inl ⟨by kernel_rfl, ?_⟩) (by assumption) ?_
  case refine_2 => (intro w9 hSw; clear hSw; go_simp; try with_reducible rfl)
  simp only [Act.put, List.setIfInBounds_toArray, List.set_cons_zero, List.set_cons_succ]
  refine wpAnyH_take (i := 3) (v := undef) (oi := { dst := some 25, op := _, type := _, pos := _, after := _, guard := some (2, true) }) rfl (by kernel_rfl) (by kernel_rfl) (by kernel_rfl) (fun _ _ _ h => h) (Or.inr ⟨by kernel_rfl, rfl⟩) (by assumption) ?_
  simp only [Act.put, List.setIfInBounds_toArray, List.set_cons_zero, List.set_cons_succ]
  refine wpAnyH_take (i := 4) (v := undef) (oi := { dst := some 26, op := _, type := _, pos := _, after := _, guard := some (2, true) }) rfl (by kernel_rfl) (by kernel_rfl) (by kernel_rfl) (fun _ _ _ h => h) (Or.inr ⟨by kernel_rfl, rfl⟩) (by assumption) ?_
  simp only [Act.put, List.setIfInBounds_toArray, List.set_cons_zero, List.set_cons_succ]
  refine wpAnyH_take (i := 5) (v := undef) (oi := { dst := some 27, op := _, type := _, pos := _, after := _, guard := some (2, true) }) rfl (by kernel_rfl) (by kernel_rfl) (by kernel_rfl) (fun _ _ _ h => h) (Or.inr ⟨by kernel_rfl, rfl⟩) (by assumption) ?_
  simp only [Act.put, List.setIfInBounds_toArray, List.set_cons_zero, List.set_cons_succ]
  refine wpAnyH_take (i := 6) (v := undef) (oi := { dst := some 28, op := _, type := _, pos := _, after := _, guard := some (2, true) }) rfl (by kernel_rfl) (by kernel_rfl) (by kernel_rfl) (fun _ _ _ h => h) (Or.inr ⟨by kernel_rfl, rfl⟩) (by assumption) ?_
  simp only [Act.put, List.setIfInBounds_toArray, List.set_cons_zero, List.set_cons_succ]
  refine wpAnyH_take (i := 7) (v := undef) (oi := { dst := some 29, op := _, type := _, pos := _, after := _, guard := some (2, true) }) rfl (by kernel_rfl) (by kernel_rfl) (by kernel_rfl) (fun _ _ _ h => h) (Or.inr ⟨by kernel_rfl, rfl⟩) (by assumption) ?_
  simp only [Act.put, List.setIfInBounds_toArray, List.set_cons_zero, List.set_cons_succ]
  refine wpAnyH_take (i := 8) (v := undef) (oi := { dst := some 30, op := _, type := _, pos := _, after := _, guard := some (2, true) }) rfl (by kernel_rfl) (by kernel_rfl) (by kernel_rfl) (fun _ _ _ h => h) (Or.inr ⟨by kernel_rfl, rfl⟩) (by assumption) ?_
  simp only [Act.put, List.setIfInBounds_toArray, List.set_cons_zero, List.set_cons_succ]
  refine wpAnyH_take (i := 9) (v := undef) (oi := { dst := some 31, op := _, type := _, pos := _, after := _, guard := some (2, true) }) rfl (by kernel_rfl) (by kernel_rfl) (by kernel_rfl) (fun _ _ _ h => h) (Or.inr ⟨by kernel_rfl, rfl⟩) (by assumption) ?_
  simp only [Act.put, List.setIfInBounds_toArray, List.set_cons_zero, List.set_cons_succ]
  refine wpAnyH_take (i := 10) (v := undef) (oi := { dst := some 32, op := _, type := _, pos := _, after := _, guard := some (2, true) }) rfl (by kernel_rfl) (by kernel_rfl) (by kernel_rfl) (fun _ _ _ h => h) (Or.inr ⟨by kernel_rfl, rfl⟩) (by assumption) ?_
  simp only [Act.put, List.setIfInBounds_toArray, List.set_cons_zero, List.set_cons_succ]
  refine wpAnyH_take (i := 11) (v := undef) (oi := { dst := some 33, op := _, type := _, pos := _, after := _, guard := some (2, true) }) rfl (by kernel_rfl) (by kernel_rfl) (by kernel_rfl) (fun _ _ _ h => h) (Or.inr ⟨by kernel_rfl, rfl⟩) (by assumption) ?_
  simp only [Act.put, List.setIfInBounds_toArray, List.set_cons_zero, List.set_cons_succ]
  refine wpAnyH_take (i := 12) (v := undef) (oi := { dst := some 34, op := _, type := _, pos := _, after := _, guard := some (2, true) }) rfl (by kernel_rfl) (by kernel_rfl) (by kernel_rfl) (fun _ _ _ h => h) (Or.inr ⟨by kernel_rfl, rfl⟩) (by assumption) ?_
  simp only [Act.put, List.setIfInBounds_toArray, List.set_cons_zero, List.set_cons_succ]
  refine wpAnyH_take (i := 13) (v := ?_) (oi := { dst := some 35, op := _, type := _, pos := _, after := _, guard := none }) rfl (by kernel_rfl) (by kernel_rfl) (by kernel_rfl) (fun _ _ _ h => h) (Or.inl ⟨by kernel_rfl, ?_⟩) (by assumption) ?_
  case refine_2 => (intro w9 hSw; clear hSw; go_simp; try with_reducible rfl)
  simp only [Act.put, List.setIfInBounds_toArray, List.set_cons_zero, List.set_cons_succ]
  clear hHeld
  refine wpAnyH_done (by kernel_rfl) ?_ _
  go_upto_region 8 with fail
  refine gen_code (fun V => Bx V (w.heap.size + 1) FL ∧ Below w.heap.size w V) ⟨HXF.out.below ((Below.refl _ _).drew), (HBV.out.trans (((Below.refl _ _).drew).mono HBV.out.size))⟩ ?_
  clear HXF HXV HBV HLV f1 v5
  rintro V3 ⟨XF3, B3⟩
  have f1 := XF3.c 1 hF1
  have HX3 : Hid (Bx V3 (w.heap.size + 1) FL) := XF3
  have HB3 : Hid (Below w.heap.size w V3) := B3
  have FA3 := FA.out V3 (bel_lens B3 HL.out) (HTb.out.below B3)
  rw [hFL] at FA3
  clear XF3 B3 FA
  go_upto_region 9 with (first | (refine wpList_load_mid rfl 44 _ rfl (w.heap.size + 1) 0 rfl FL _ HX3.out.all Tryd.underlying44 rfl (by rw [hF19]; kernel_rfl) ?_) | (refine FA3.mono ?_; clear FA3; rintro e w4 ⟨rfl, hb4⟩) | fail)
  refine gen_code (fun V => V.cell? ⟨w.heap.size + 1, 1, none⟩ = some (.int .i64 t.foot.fr) ∧ V.cell? ⟨w4.heap.size, 0, none⟩ = some (.int .i64 p.t) ∧ Below w.heap.size w V) ⟨((HX3.out.below hb4).alloc _).c 1 hF1, (Bx.new w4 [.int .i64 p.t, .int .i64 p.o, .bool p.d, .string p.a] 23).c 0 rfl, (HB3.out.trans (hb4.mono HB3.out.size)).alloc (HB3.out.trans (hb4.mono HB3.out.size)).size _⟩ ?_
  clear hb4 HX3 HB3 f1
  rintro V5 ⟨k1, k2, k3⟩
  have HB5 : Hid (Below w.heap.size w V5) := k3
  clear k3
  by_cases her : er = 0
  · go_wp2
    go_ret
    exact ⟨ret_b9 (by first | (simp [her]; done) | (simp [her]; rfl)), HB5.out⟩
  · go_wp2
    go_ret
    exact ⟨ret_b9 (by first | (simp [her]; done) | (simp [her]; rfl)), HB5.out⟩

end Go.Proofs.YtcgcljfdfimfgaaDoor
