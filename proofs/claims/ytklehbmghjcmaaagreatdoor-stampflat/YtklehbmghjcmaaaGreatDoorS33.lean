import Derived.Test.YtklehbmghjcmaaaGreatDoorSz
import Derived.Test.YtklehbmghjcmaaaGreatDoorS32
import Derived.Laws.StructEq
import Derived.Test.YtklehbmghjcmaaaGreatDoorS8
import Derived.Test.YtklehbmghjcmaaaGreatDoorS10
open Go.Value renaming int → vi
open Go.IntKind renaming i64 → ki
open List renaming setIfInBounds_toArray → zb, set_cons_zero → zc, set_cons_succ → zd
open Go.Act renaming put → za
open Go.Ending renaming returned → zr
set_option maxRecDepth 100000
set_option maxHeartbeats 16000000
set_option linter.unusedVariables false
namespace Go.Proofs.YtklehbmghjcmaaaGreatDoor
open Go.RowKit Sr
open _root_.Go.Proofs.YtklehbmghjcmaaaGreatDoor.Fn (bel_lens)
theorem rf_year (t : TbR) (sv : Value) (y : Int) (hy : y < 1800 ∨ 2110 < y) (YA : Hid (∀ w : World, Cvl.Lens w → Calls Tryz.prog 124 #[vi ki t.foot.fr] w fun e w' => e = zr (vi ki y) ∧ w' = w)) (w : World) (HL : Hid (Cvl.Lens w)) :
  Calls Tryz.prog 75 #[.agg (tbL t sv).toArray] w fun e w' => e = zr (.bool false) ∧ Below w.heap.size w w' := by
 have X1 : Hid (Bx (w.alloc (.cells (tbL t sv).toArray 44)) w.heap.size (tbL t sv)) := Bx.new w (tbL t sv) 44
 have B1 : Hid (Below w.heap.size w (w.alloc (.cells (tbL t sv).toArray 44))) := (Below.refl _ _).alloc (Nat.le_refl _) _
 have S1 : Hid ((w.alloc (.cells (tbL t sv).toArray 44)).heap.size = w.heap.size + 1) := World.size_alloc _ _
 obtain ⟨FL, hFL⟩ : ∃ FL, Fn.fL t.foot = FL := ⟨_, rfl⟩
 have hF19 : FL.length = 19 := by rw [← hFL]; rfl
 have hA19 : FL.toArray.size = 19 := by simp [hF19]
 have hone : FL.toArray.all (·.oneCell') = true := by rw [← hFL]; simp [Fn.fL, Value.oneCell']
 have hF1 : FL[1]? = some (vi ki t.foot.fr) := by rw [← hFL]; rfl
 go_enter Tryz.func75, Tryz.ntmps75
 generalize hUA : (tbL t sv).toArray = UA at *
 go_upto_region 1 with fail
 refine gen_code (fun V => Bx V w.heap.size (tbL t sv) ∧ Below w.heap.size w V ∧ V.heap.size = w.heap.size + 1) ⟨X1.out, B1.out, S1.out⟩ ?_
 clear X1 B1 S1
 rintro V ⟨XV, BV, SV⟩
 have HR : Hid (V.rangeAt w.heap.size 6 FL) := by
  show V.rangeAt _ _ _
  rw [← hFL]
  exact XV.rng (.string t.nm :: (trC t.first ++ [sv])) (Fn.fL t.foot) [] rfl
 have X2 : Hid (Bx (V.alloc (.cells [.bool false, vi ki 0, vi ki 0, vi ki 0, vi ki 0, vi ki 0, vi ki 0, vi ki 0, .int .u8 0, vi ki 0, .string ⟨#[]⟩, vi ki 0, vi ki 0, vi ki 0, vi ki 0, vi ki 0, .int .u8 0, vi ki 0, .string ⟨#[]⟩].toArray 42)) (w.heap.size + 1) [.bool false, vi ki 0, vi ki 0, vi ki 0, vi ki 0, vi ki 0, vi ki 0, vi ki 0, .int .u8 0, vi ki 0, .string ⟨#[]⟩, vi ki 0, vi ki 0, vi ki 0, vi ki 0, vi ki 0, .int .u8 0, vi ki 0, .string ⟨#[]⟩]) := Bx.newAt V _ 42 _ SV
 have HTH : Hid ((V.alloc (.cells [.bool false, vi ki 0, vi ki 0, vi ki 0, vi ki 0, vi ki 0, vi ki 0, vi ki 0, .int .u8 0, vi ki 0, .string ⟨#[]⟩, vi ki 0, vi ki 0, vi ki 0, vi ki 0, vi ki 0, .int .u8 0, vi ki 0, .string ⟨#[]⟩].toArray 42)).there (w.heap.size + 1) 0 FL.toArray.size) := by show World.there _ _ _ _; rw [hA19]; exact X2.out.there
 have B2 : Hid (Below w.heap.size w (V.alloc (.cells [.bool false, vi ki 0, vi ki 0, vi ki 0, vi ki 0, vi ki 0, vi ki 0, vi ki 0, .int .u8 0, vi ki 0, .string ⟨#[]⟩, vi ki 0, vi ki 0, vi ki 0, vi ki 0, vi ki 0, .int .u8 0, vi ki 0, .string ⟨#[]⟩].toArray 42))) := BV.alloc BV.size _
 have X3 : Hid (Bx (V.alloc (.cells [.bool false, vi ki 0, vi ki 0, vi ki 0, vi ki 0, vi ki 0, vi ki 0, vi ki 0, .int .u8 0, vi ki 0, .string ⟨#[]⟩, vi ki 0, vi ki 0, vi ki 0, vi ki 0, vi ki 0, .int .u8 0, vi ki 0, .string ⟨#[]⟩].toArray 42)) w.heap.size (tbL t sv)) := XV.alloc _
 clear XV BV
 go_upto_region 2 with (first | (refine wpList_load_mid rfl 42 _ rfl w.heap.size 6 rfl FL _ HR.out Tryz.underlying42 rfl (by rw [hF19]; kernel_rfl) ?_) | (refine wpList_store_mid rfl 42 _ _ rfl (w.heap.size + 1) 0 FL.toArray rfl rfl HTH.out (by rw [hA19]; kernel_rfl) hone ?_; refine gen_list (fun V => Bx V (w.heap.size + 1) FL ∧ Below w.heap.size w V ∧ Bx V w.heap.size (tbL t sv)) ⟨X2.out.setAll FL (by rw [hF19]; rfl), below_setCells (Nat.le_succ _) _ _ _ B2.out, X3.out.setOther (by omega) FL 0⟩ ?_; clear X2 B2 X3 HTH HR SV; rintro V2 ⟨XF, BV, XV⟩) | fail)
 have f1 := XF.c 1 hF1
 have HLV : Hid (Cvl.Lens V2) := bel_lens BV HL.out
 have HXF : Hid (Bx V2 (w.heap.size + 1) FL) := XF
 have HXV : Hid (Bx V2 w.heap.size (tbL t sv)) := XV
 have HBV : Hid (Below w.heap.size w V2) := BV
 clear XF XV BV
 go_wp2_with fail
 refine (YA.out V2 HLV.out).mono ?_
 rintro e w1 ⟨rfl, hw1⟩
 obtain rfl := hw1.symm
 clear hw1
 go_wp2
 all_goals (first | (go_ret; exact ⟨rfl, HBV.out⟩) | skip)
theorem rf_last (t : TbR) (sv : Value) (y : Int) (hy1 : 1800 ≤ y) (hy2 : y ≤ 2110) (YA : Hid (∀ w : World, Cvl.Lens w → Calls Tryz.prog 124 #[vi ki t.foot.fr] w fun e w' => e = zr (vi ki y) ∧ w' = w)) (x : TrR) (hx : t.trs[t.trs.length - 1]? = some x) (hle : t.foot.fr ≤ x.at_) (w : World) (HL : Hid (Cvl.Lens w)) (HT : Hid (TrAt w sv t.trs)) :
  Calls Tryz.prog 75 #[.agg (tbL t sv).toArray] w fun e w' => e = zr (.bool false) ∧ Below w.heap.size w w' := by
 obtain ⟨⟨ao, c, hsv⟩, hml, _⟩ := HT.out
 obtain ⟨n, hn⟩ : ∃ n, t.trs.length = n := ⟨_, rfl⟩
 rw [hn] at hsv hml
 subst hsv
 unfold maxLen at hml
 obtain ⟨g, o, c', hsv9, hrg⟩ := HT.out.row hx
 rw [hn] at hsv9 hrg
 simp only [Value.slice.injEq, true_and] at hsv9
 obtain ⟨rfl, rfl⟩ := hsv9
 have hnp : 0 < n := by have := (List.getElem?_eq_some_iff.1 hx).1; omega
 have hg : g < w.heap.size := by
  rcases HT.out.2.2 with h0 | ⟨g', o', c9, e9, h9, _⟩
  ·rw [h0] at hn; simp at hn; omega
  ·simp only [Value.slice.injEq, Option.some.injEq, Addr.mk.injEq] at e9; omega
 have hwr : IntKind.i64.wrap ((n : Int) - 1) = (n : Int) - 1 := by rw [IntKind.wrap_i64]; omega
 have X1 : Hid (Bx (w.alloc (.cells (tbL t (.slice (some ⟨g, o, none⟩) n c)).toArray 44)) w.heap.size (tbL t (.slice (some ⟨g, o, none⟩) n c))) := Bx.new w (tbL t (.slice (some ⟨g, o, none⟩) n c)) 44
 have B1 : Hid (Below w.heap.size w (w.alloc (.cells (tbL t (.slice (some ⟨g, o, none⟩) n c)).toArray 44))) := (Below.refl _ _).alloc (Nat.le_refl _) _
 have S1 : Hid ((w.alloc (.cells (tbL t (.slice (some ⟨g, o, none⟩) n c)).toArray 44)).heap.size = w.heap.size + 1) := World.size_alloc _ _
 obtain ⟨FL, hFL⟩ : ∃ FL, Fn.fL t.foot = FL := ⟨_, rfl⟩
 have hF19 : FL.length = 19 := by rw [← hFL]; rfl
 have hA19 : FL.toArray.size = 19 := by simp [hF19]
 have hone : FL.toArray.all (·.oneCell') = true := by rw [← hFL]; simp [Fn.fL, Value.oneCell']
 have hF1 : FL[1]? = some (vi ki t.foot.fr) := by rw [← hFL]; rfl
 go_enter Tryz.func75, Tryz.ntmps75
 generalize hUA : (tbL t (.slice (some ⟨g, o, none⟩) n c)).toArray = UA at *
 go_upto_region 1 with fail
 refine gen_code (fun V => Bx V w.heap.size (tbL t (.slice (some ⟨g, o, none⟩) n c)) ∧ Below w.heap.size w V ∧ V.heap.size = w.heap.size + 1) ⟨X1.out, B1.out, S1.out⟩ ?_
 clear X1 B1 S1
 rintro V ⟨XV, BV, SV⟩
 have HR : Hid (V.rangeAt w.heap.size 6 FL) := by
  show V.rangeAt _ _ _
  rw [← hFL]
  exact XV.rng (.string t.nm :: (trC t.first ++ [.slice (some ⟨g, o, none⟩) n c])) (Fn.fL t.foot) [] rfl
 have X2 : Hid (Bx (V.alloc (.cells [.bool false, vi ki 0, vi ki 0, vi ki 0, vi ki 0, vi ki 0, vi ki 0, vi ki 0, .int .u8 0, vi ki 0, .string ⟨#[]⟩, vi ki 0, vi ki 0, vi ki 0, vi ki 0, vi ki 0, .int .u8 0, vi ki 0, .string ⟨#[]⟩].toArray 42)) (w.heap.size + 1) [.bool false, vi ki 0, vi ki 0, vi ki 0, vi ki 0, vi ki 0, vi ki 0, vi ki 0, .int .u8 0, vi ki 0, .string ⟨#[]⟩, vi ki 0, vi ki 0, vi ki 0, vi ki 0, vi ki 0, .int .u8 0, vi ki 0, .string ⟨#[]⟩]) := Bx.newAt V _ 42 _ SV
 have HTH : Hid ((V.alloc (.cells [.bool false, vi ki 0, vi ki 0, vi ki 0, vi ki 0, vi ki 0, vi ki 0, vi ki 0, .int .u8 0, vi ki 0, .string ⟨#[]⟩, vi ki 0, vi ki 0, vi ki 0, vi ki 0, vi ki 0, .int .u8 0, vi ki 0, .string ⟨#[]⟩].toArray 42)).there (w.heap.size + 1) 0 FL.toArray.size) := by show World.there _ _ _ _; rw [hA19]; exact X2.out.there
 have B2 : Hid (Below w.heap.size w (V.alloc (.cells [.bool false, vi ki 0, vi ki 0, vi ki 0, vi ki 0, vi ki 0, vi ki 0, vi ki 0, .int .u8 0, vi ki 0, .string ⟨#[]⟩, vi ki 0, vi ki 0, vi ki 0, vi ki 0, vi ki 0, .int .u8 0, vi ki 0, .string ⟨#[]⟩].toArray 42))) := BV.alloc BV.size _
 have X3 : Hid (Bx (V.alloc (.cells [.bool false, vi ki 0, vi ki 0, vi ki 0, vi ki 0, vi ki 0, vi ki 0, vi ki 0, .int .u8 0, vi ki 0, .string ⟨#[]⟩, vi ki 0, vi ki 0, vi ki 0, vi ki 0, vi ki 0, .int .u8 0, vi ki 0, .string ⟨#[]⟩].toArray 42)) w.heap.size (tbL t (.slice (some ⟨g, o, none⟩) n c))) := XV.alloc _
 clear XV BV
 go_upto_region 2 with (first | (refine wpList_load_mid rfl 42 _ rfl w.heap.size 6 rfl FL _ HR.out Tryz.underlying42 rfl (by rw [hF19]; kernel_rfl) ?_) | (refine wpList_store_mid rfl 42 _ _ rfl (w.heap.size + 1) 0 FL.toArray rfl rfl HTH.out (by rw [hA19]; kernel_rfl) hone ?_; refine gen_list (fun V => Bx V (w.heap.size + 1) FL ∧ Below w.heap.size w V ∧ Bx V w.heap.size (tbL t (.slice (some ⟨g, o, none⟩) n c))) ⟨X2.out.setAll FL (by rw [hF19]; rfl), below_setCells (Nat.le_succ _) _ _ _ B2.out, X3.out.setOther (by omega) FL 0⟩ ?_; clear X2 B2 X3 HTH HR SV; rintro V2 ⟨XF, BV, XV⟩) | fail)
 have f1 := XF.c 1 hF1
 have HLV : Hid (Cvl.Lens V2) := bel_lens BV HL.out
 have HXF : Hid (Bx V2 (w.heap.size + 1) FL) := XF
 have HXV : Hid (Bx V2 w.heap.size (tbL t (.slice (some ⟨g, o, none⟩) n c))) := XV
 have HBV : Hid (Below w.heap.size w V2) := BV
 clear XF XV BV
 go_wp2_with fail
 refine (YA.out V2 HLV.out).mono ?_
 rintro e w1 ⟨rfl, hw1⟩
 obtain rfl := hw1.symm
 clear hw1
 have v5 := HXV.out.c 5 (v := .slice (some ⟨g, o, none⟩) n c) rfl
 go_upto_region 6 with fail
 have HS6 : Hid ((fun W : World => W.cell? ⟨w.heap.size + 1, 1, none⟩ = some (vi ki t.foot.fr) ∧ W.cell? ⟨w.heap.size, 5, none⟩ = some (.slice (some ⟨g, o, none⟩) n c) ∧ W.cell? ⟨g, o + (n - 1) * 4, none⟩ = some (vi ki x.at_)) V2) := ⟨f1, v5, (HBV.out.cell (p := ⟨g, o + (n - 1) * 4, none⟩) hg).trans (hrg 0 _ rfl)⟩
 refine wp_region_held_drew (S := (fun W : World => W.cell? ⟨w.heap.size + 1, 1, none⟩ = some (vi ki t.foot.fr) ∧ W.cell? ⟨w.heap.size, 5, none⟩ = some (.slice (some ⟨g, o, none⟩) n c) ∧ W.cell? ⟨g, o + (n - 1) * 4, none⟩ = some (vi ki x.at_))) (by kernel_rfl) (by simpa [go_sem] using HS6.out) (fun hHeld => ?_)
 refine tks 0 ⟨some 22, _, _, _, _, none⟩ rfl ?_
 simp only [za, zb, zc, zd]
 refine tks 1 ⟨some 23, _, _, _, _, none⟩ rfl ?_
 simp only [za, zb, zc, zd]
 refine tks 2 ⟨some 24, _, _, _, _, none⟩ rfl ?_
 simp only [za, zb, zc, zd]
 refine tks 3 ⟨some 25, _, _, _, _, some (2, true)⟩ rfl ?_
 simp only [za, zb, zc, zd]
 refine tk (v := ?_) 4 ⟨some 26, _, _, _, _, some (2, true)⟩ rfl ?_ ?_
 case refine_2 => (intro w9 hSw; obtain ⟨s1, s2, s3⟩ := hSw; go_simp; try with_reducible rfl)
 simp only [za, zb, zc, zd]
 refine tks 5 ⟨some 27, _, _, _, _, some (2, true)⟩ rfl ?_
 simp only [za, zb, zc, zd]
 refine tk (v := ?_) 6 ⟨some 28, _, _, _, _, some (2, true)⟩ rfl ?_ ?_
 case refine_2 => (intro w9 hSw; obtain ⟨s1, s2, s3⟩ := hSw; go_simp; try with_reducible rfl)
 simp only [za, zb, zc, zd]
 refine tks 7 ⟨some 29, _, _, _, _, some (2, true)⟩ rfl ?_
 simp only [za, zb, zc, zd]
 refine tks 8 ⟨some 30, _, _, _, _, some (2, true)⟩ rfl ?_
 simp only [za, zb, zc, zd]
 refine wpAnyH_take (i := 9) (v := .pointer (some ⟨g, o + (n - 1) * 4, none⟩)) (oi := ⟨some 31, _, _, _, _, some (2, true)⟩) rfl (by kernel_rfl) (by kernel_rfl) (by kernel_rfl) (fun _ _ _ h => h) (Or.inl ⟨by kernel_rfl, ?_⟩) (by assumption) ?_
 case refine_1 => (rintro w9 -; go_simp; intro h9; exact absurd (h9 (by omega)) (by omega))
 simp only [za, zb, zc, zd]
 refine tks 10 ⟨some 32, _, _, _, _, some (2, true)⟩ rfl ?_
 simp only [za, zb, zc, zd]
 refine tk (v := ?_) 11 ⟨some 33, _, _, _, _, some (2, true)⟩ rfl ?_ ?_
 case refine_2 => (intro w9 hSw; obtain ⟨s1, s2, s3⟩ := hSw; go_simp; try with_reducible rfl)
 simp only [za, zb, zc, zd]
 refine tks 12 ⟨some 34, _, _, _, _, some (2, true)⟩ rfl ?_
 simp only [za, zb, zc, zd]
 refine tks 13 ⟨some 35, _, _, _, _, none⟩ rfl ?_
 simp only [za, zb, zc, zd]
 clear hHeld
 refine wpAnyH_done (by kernel_rfl) ?_ _
 go_wp2
 go_ret
 exact ⟨rfl, (HBV.out.trans (((Below.refl _ _).drew).mono HBV.out.size))⟩
theorem rf_some (t : TbR) (sv : Value) (y : Int) (hy1 : 1800 ≤ y) (hy2 : y ≤ 2110) (YA : Hid (∀ w : World, Cvl.Lens w → Calls Tryz.prog 124 #[vi ki t.foot.fr] w fun e w' => e = zr (vi ki y) ∧ w' = w)) (p : Fn.Tr) (er : Int) (FA : Hid (∀ w : World, Cvl.Lens w → Clk.Tab w → Calls Tryz.prog 125 #[.agg (Fn.fL t.foot).toArray, vi ki t.foot.fr] w fun e w' => e = zr (.tuple #[.agg #[vi ki p.t, vi ki p.o, .bool p.d, .string p.a], vi ki er]) ∧ Below w.heap.size w w')) (x : TrR) (hx : t.trs[t.trs.length - 1]? = some x) (hle : ¬ t.foot.fr ≤ x.at_) (w : World) (HL : Hid (Cvl.Lens w)) (HTb : Hid (Clk.Tab w)) (HT : Hid (TrAt w sv t.trs)) :
  Calls Tryz.prog 75 #[.agg (tbL t sv).toArray] w fun e w' => e = zr (.bool (decide (er = 0) && decide (p.t = t.foot.fr))) ∧ Below w.heap.size w w' := by
 obtain ⟨⟨ao, c, hsv⟩, hml, _⟩ := HT.out
 obtain ⟨n, hn⟩ : ∃ n, t.trs.length = n := ⟨_, rfl⟩
 rw [hn] at hsv hml
 subst hsv
 unfold maxLen at hml
 obtain ⟨g, o, c', hsv9, hrg⟩ := HT.out.row hx
 rw [hn] at hsv9 hrg
 simp only [Value.slice.injEq, true_and] at hsv9
 obtain ⟨rfl, rfl⟩ := hsv9
 have hnp : 0 < n := by have := (List.getElem?_eq_some_iff.1 hx).1; omega
 have hg : g < w.heap.size := by
  rcases HT.out.2.2 with h0 | ⟨g', o', c9, e9, h9, _⟩
  ·rw [h0] at hn; simp at hn; omega
  ·simp only [Value.slice.injEq, Option.some.injEq, Addr.mk.injEq] at e9; omega
 have hwr : IntKind.i64.wrap ((n : Int) - 1) = (n : Int) - 1 := by rw [IntKind.wrap_i64]; omega
 have X1 : Hid (Bx (w.alloc (.cells (tbL t (.slice (some ⟨g, o, none⟩) n c)).toArray 44)) w.heap.size (tbL t (.slice (some ⟨g, o, none⟩) n c))) := Bx.new w (tbL t (.slice (some ⟨g, o, none⟩) n c)) 44
 have B1 : Hid (Below w.heap.size w (w.alloc (.cells (tbL t (.slice (some ⟨g, o, none⟩) n c)).toArray 44))) := (Below.refl _ _).alloc (Nat.le_refl _) _
 have S1 : Hid ((w.alloc (.cells (tbL t (.slice (some ⟨g, o, none⟩) n c)).toArray 44)).heap.size = w.heap.size + 1) := World.size_alloc _ _
 obtain ⟨FL, hFL⟩ : ∃ FL, Fn.fL t.foot = FL := ⟨_, rfl⟩
 have hF19 : FL.length = 19 := by rw [← hFL]; rfl
 have hA19 : FL.toArray.size = 19 := by simp [hF19]
 have hone : FL.toArray.all (·.oneCell') = true := by rw [← hFL]; simp [Fn.fL, Value.oneCell']
 have hF1 : FL[1]? = some (vi ki t.foot.fr) := by rw [← hFL]; rfl
 go_enter Tryz.func75, Tryz.ntmps75
 generalize hUA : (tbL t (.slice (some ⟨g, o, none⟩) n c)).toArray = UA at *
 go_upto_region 1 with fail
 refine gen_code (fun V => Bx V w.heap.size (tbL t (.slice (some ⟨g, o, none⟩) n c)) ∧ Below w.heap.size w V ∧ V.heap.size = w.heap.size + 1) ⟨X1.out, B1.out, S1.out⟩ ?_
 clear X1 B1 S1
 rintro V ⟨XV, BV, SV⟩
 have HR : Hid (V.rangeAt w.heap.size 6 FL) := by
  show V.rangeAt _ _ _
  rw [← hFL]
  exact XV.rng (.string t.nm :: (trC t.first ++ [.slice (some ⟨g, o, none⟩) n c])) (Fn.fL t.foot) [] rfl
 have X2 : Hid (Bx (V.alloc (.cells [.bool false, vi ki 0, vi ki 0, vi ki 0, vi ki 0, vi ki 0, vi ki 0, vi ki 0, .int .u8 0, vi ki 0, .string ⟨#[]⟩, vi ki 0, vi ki 0, vi ki 0, vi ki 0, vi ki 0, .int .u8 0, vi ki 0, .string ⟨#[]⟩].toArray 42)) (w.heap.size + 1) [.bool false, vi ki 0, vi ki 0, vi ki 0, vi ki 0, vi ki 0, vi ki 0, vi ki 0, .int .u8 0, vi ki 0, .string ⟨#[]⟩, vi ki 0, vi ki 0, vi ki 0, vi ki 0, vi ki 0, .int .u8 0, vi ki 0, .string ⟨#[]⟩]) := Bx.newAt V _ 42 _ SV
 have HTH : Hid ((V.alloc (.cells [.bool false, vi ki 0, vi ki 0, vi ki 0, vi ki 0, vi ki 0, vi ki 0, vi ki 0, .int .u8 0, vi ki 0, .string ⟨#[]⟩, vi ki 0, vi ki 0, vi ki 0, vi ki 0, vi ki 0, .int .u8 0, vi ki 0, .string ⟨#[]⟩].toArray 42)).there (w.heap.size + 1) 0 FL.toArray.size) := by show World.there _ _ _ _; rw [hA19]; exact X2.out.there
 have B2 : Hid (Below w.heap.size w (V.alloc (.cells [.bool false, vi ki 0, vi ki 0, vi ki 0, vi ki 0, vi ki 0, vi ki 0, vi ki 0, .int .u8 0, vi ki 0, .string ⟨#[]⟩, vi ki 0, vi ki 0, vi ki 0, vi ki 0, vi ki 0, .int .u8 0, vi ki 0, .string ⟨#[]⟩].toArray 42))) := BV.alloc BV.size _
 have X3 : Hid (Bx (V.alloc (.cells [.bool false, vi ki 0, vi ki 0, vi ki 0, vi ki 0, vi ki 0, vi ki 0, vi ki 0, .int .u8 0, vi ki 0, .string ⟨#[]⟩, vi ki 0, vi ki 0, vi ki 0, vi ki 0, vi ki 0, .int .u8 0, vi ki 0, .string ⟨#[]⟩].toArray 42)) w.heap.size (tbL t (.slice (some ⟨g, o, none⟩) n c))) := XV.alloc _
 clear XV BV
 go_upto_region 2 with (first | (refine wpList_load_mid rfl 42 _ rfl w.heap.size 6 rfl FL _ HR.out Tryz.underlying42 rfl (by rw [hF19]; kernel_rfl) ?_) | (refine wpList_store_mid rfl 42 _ _ rfl (w.heap.size + 1) 0 FL.toArray rfl rfl HTH.out (by rw [hA19]; kernel_rfl) hone ?_; refine gen_list (fun V => Bx V (w.heap.size + 1) FL ∧ Below w.heap.size w V ∧ Bx V w.heap.size (tbL t (.slice (some ⟨g, o, none⟩) n c))) ⟨X2.out.setAll FL (by rw [hF19]; rfl), below_setCells (Nat.le_succ _) _ _ _ B2.out, X3.out.setOther (by omega) FL 0⟩ ?_; clear X2 B2 X3 HTH HR SV; rintro V2 ⟨XF, BV, XV⟩) | fail)
 have f1 := XF.c 1 hF1
 have HLV : Hid (Cvl.Lens V2) := bel_lens BV HL.out
 have HXF : Hid (Bx V2 (w.heap.size + 1) FL) := XF
 have HXV : Hid (Bx V2 w.heap.size (tbL t (.slice (some ⟨g, o, none⟩) n c))) := XV
 have HBV : Hid (Below w.heap.size w V2) := BV
 clear XF XV BV
 go_wp2_with fail
 refine (YA.out V2 HLV.out).mono ?_
 rintro e w1 ⟨rfl, hw1⟩
 obtain rfl := hw1.symm
 clear hw1
 have v5 := HXV.out.c 5 (v := .slice (some ⟨g, o, none⟩) n c) rfl
 go_upto_region 6 with fail
 have HS6 : Hid ((fun W : World => W.cell? ⟨w.heap.size + 1, 1, none⟩ = some (vi ki t.foot.fr) ∧ W.cell? ⟨w.heap.size, 5, none⟩ = some (.slice (some ⟨g, o, none⟩) n c) ∧ W.cell? ⟨g, o + (n - 1) * 4, none⟩ = some (vi ki x.at_)) V2) := ⟨f1, v5, (HBV.out.cell (p := ⟨g, o + (n - 1) * 4, none⟩) hg).trans (hrg 0 _ rfl)⟩
 refine wp_region_held_drew (S := (fun W : World => W.cell? ⟨w.heap.size + 1, 1, none⟩ = some (vi ki t.foot.fr) ∧ W.cell? ⟨w.heap.size, 5, none⟩ = some (.slice (some ⟨g, o, none⟩) n c) ∧ W.cell? ⟨g, o + (n - 1) * 4, none⟩ = some (vi ki x.at_))) (by kernel_rfl) (by simpa [go_sem] using HS6.out) (fun hHeld => ?_)
 refine tks 0 ⟨some 22, _, _, _, _, none⟩ rfl ?_
 simp only [za, zb, zc, zd]
 refine tks 1 ⟨some 23, _, _, _, _, none⟩ rfl ?_
 simp only [za, zb, zc, zd]
 refine tks 2 ⟨some 24, _, _, _, _, none⟩ rfl ?_
 simp only [za, zb, zc, zd]
 refine tks 3 ⟨some 25, _, _, _, _, some (2, true)⟩ rfl ?_
 simp only [za, zb, zc, zd]
 refine tk (v := ?_) 4 ⟨some 26, _, _, _, _, some (2, true)⟩ rfl ?_ ?_
 case refine_2 => (intro w9 hSw; obtain ⟨s1, s2, s3⟩ := hSw; go_simp; try with_reducible rfl)
 simp only [za, zb, zc, zd]
 refine tks 5 ⟨some 27, _, _, _, _, some (2, true)⟩ rfl ?_
 simp only [za, zb, zc, zd]
 refine tk (v := ?_) 6 ⟨some 28, _, _, _, _, some (2, true)⟩ rfl ?_ ?_
 case refine_2 => (intro w9 hSw; obtain ⟨s1, s2, s3⟩ := hSw; go_simp; try with_reducible rfl)
 simp only [za, zb, zc, zd]
 refine tks 7 ⟨some 29, _, _, _, _, some (2, true)⟩ rfl ?_
 simp only [za, zb, zc, zd]
 refine tks 8 ⟨some 30, _, _, _, _, some (2, true)⟩ rfl ?_
 simp only [za, zb, zc, zd]
 refine wpAnyH_take (i := 9) (v := .pointer (some ⟨g, o + (n - 1) * 4, none⟩)) (oi := ⟨some 31, _, _, _, _, some (2, true)⟩) rfl (by kernel_rfl) (by kernel_rfl) (by kernel_rfl) (fun _ _ _ h => h) (Or.inl ⟨by kernel_rfl, ?_⟩) (by assumption) ?_
 case refine_1 => (rintro w9 -; go_simp; intro h9; exact absurd (h9 (by omega)) (by omega))
 simp only [za, zb, zc, zd]
 refine tks 10 ⟨some 32, _, _, _, _, some (2, true)⟩ rfl ?_
 simp only [za, zb, zc, zd]
 refine tk (v := ?_) 11 ⟨some 33, _, _, _, _, some (2, true)⟩ rfl ?_ ?_
 case refine_2 => (intro w9 hSw; obtain ⟨s1, s2, s3⟩ := hSw; go_simp; try with_reducible rfl)
 simp only [za, zb, zc, zd]
 refine tks 12 ⟨some 34, _, _, _, _, some (2, true)⟩ rfl ?_
 simp only [za, zb, zc, zd]
 refine tks 13 ⟨some 35, _, _, _, _, none⟩ rfl ?_
 simp only [za, zb, zc, zd]
 clear hHeld
 refine wpAnyH_done (by kernel_rfl) ?_ _
 go_upto_region 8 with fail
 refine gen_code (fun V => Bx V (w.heap.size + 1) FL ∧ Below w.heap.size w V) ⟨HXF.out.below ((Below.refl _ _).drew), (HBV.out.trans (((Below.refl _ _).drew).mono HBV.out.size))⟩ ?_
 clear HXF HXV HBV HLV f1 v5
 rintro V3 ⟨XF3, B3⟩
 have f1 := XF3.c 1 hF1
 have HX3 : Hid (Bx V3 (w.heap.size + 1) FL) := XF3
 have HB3 : Hid (Below w.heap.size w V3) := B3
 have FA3 := FA.out V3 (bel_lens B3 HL.out) (HTb.out.below B3)
 rw [hFL] at FA3
 clear XF3 B3 FA
 go_upto_region 9 with (first | (refine wpList_load_mid rfl 42 _ rfl (w.heap.size + 1) 0 rfl FL _ HX3.out.all Tryz.underlying42 rfl (by rw [hF19]; kernel_rfl) ?_) | (refine FA3.mono ?_; clear FA3; rintro e w4 ⟨rfl, hb4⟩) | fail)
 refine gen_code (fun V => V.cell? ⟨w.heap.size + 1, 1, none⟩ = some (vi ki t.foot.fr) ∧ V.cell? ⟨w4.heap.size, 0, none⟩ = some (vi ki p.t) ∧ Below w.heap.size w V) ⟨((HX3.out.below hb4).alloc _).c 1 hF1, (Bx.new w4 [vi ki p.t, vi ki p.o, .bool p.d, .string p.a] 23).c 0 rfl, (HB3.out.trans (hb4.mono HB3.out.size)).alloc (HB3.out.trans (hb4.mono HB3.out.size)).size _⟩ ?_
 clear hb4 HX3 HB3 f1
 rintro V5 ⟨k1, k2, k3⟩
 have HB5 : Hid (Below w.heap.size w V5) := k3
 clear k3
 by_cases her : er = 0
 ·go_wp2
  go_ret
  exact ⟨ret_b9 (by first | (simp [her]; done) | (simp [her]; rfl)), HB5.out⟩
 ·go_wp2
  go_ret
  exact ⟨ret_b9 (by first | (simp [her]; done) | (simp [her]; rfl)), HB5.out⟩
theorem rf_none (t : TbR) (sv : Value) (y : Int) (hy1 : 1800 ≤ y) (hy2 : y ≤ 2110) (YA : Hid (∀ w : World, Cvl.Lens w → Calls Tryz.prog 124 #[vi ki t.foot.fr] w fun e w' => e = zr (vi ki y) ∧ w' = w)) (p : Fn.Tr) (er : Int) (FA : Hid (∀ w : World, Cvl.Lens w → Clk.Tab w → Calls Tryz.prog 125 #[.agg (Fn.fL t.foot).toArray, vi ki t.foot.fr] w fun e w' => e = zr (.tuple #[.agg #[vi ki p.t, vi ki p.o, .bool p.d, .string p.a], vi ki er]) ∧ Below w.heap.size w w')) (hx : t.trs = []) (w : World) (HL : Hid (Cvl.Lens w)) (HTb : Hid (Clk.Tab w)) (HT : Hid (TrAt w sv t.trs)) :
  Calls Tryz.prog 75 #[.agg (tbL t sv).toArray] w fun e w' => e = zr (.bool (decide (er = 0) && decide (p.t = t.foot.fr))) ∧ Below w.heap.size w w' := by
 obtain ⟨⟨ao, c, hsv⟩, hml, _⟩ := HT.out
 obtain ⟨n, hn⟩ : ∃ n, t.trs.length = n := ⟨_, rfl⟩
 rw [hn] at hsv hml
 subst hsv
 unfold maxLen at hml
 have hn0 : n = 0 := by rw [← hn, hx]; rfl
 subst hn0
 have X1 : Hid (Bx (w.alloc (.cells (tbL t (.slice ao 0 c)).toArray 44)) w.heap.size (tbL t (.slice ao 0 c))) := Bx.new w (tbL t (.slice ao 0 c)) 44
 have B1 : Hid (Below w.heap.size w (w.alloc (.cells (tbL t (.slice ao 0 c)).toArray 44))) := (Below.refl _ _).alloc (Nat.le_refl _) _
 have S1 : Hid ((w.alloc (.cells (tbL t (.slice ao 0 c)).toArray 44)).heap.size = w.heap.size + 1) := World.size_alloc _ _
 obtain ⟨FL, hFL⟩ : ∃ FL, Fn.fL t.foot = FL := ⟨_, rfl⟩
 have hF19 : FL.length = 19 := by rw [← hFL]; rfl
 have hA19 : FL.toArray.size = 19 := by simp [hF19]
 have hone : FL.toArray.all (·.oneCell') = true := by rw [← hFL]; simp [Fn.fL, Value.oneCell']
 have hF1 : FL[1]? = some (vi ki t.foot.fr) := by rw [← hFL]; rfl
 go_enter Tryz.func75, Tryz.ntmps75
 generalize hUA : (tbL t (.slice ao 0 c)).toArray = UA at *
 go_upto_region 1 with fail
 refine gen_code (fun V => Bx V w.heap.size (tbL t (.slice ao 0 c)) ∧ Below w.heap.size w V ∧ V.heap.size = w.heap.size + 1) ⟨X1.out, B1.out, S1.out⟩ ?_
 clear X1 B1 S1
 rintro V ⟨XV, BV, SV⟩
 have HR : Hid (V.rangeAt w.heap.size 6 FL) := by
  show V.rangeAt _ _ _
  rw [← hFL]
  exact XV.rng (.string t.nm :: (trC t.first ++ [.slice ao 0 c])) (Fn.fL t.foot) [] rfl
 have X2 : Hid (Bx (V.alloc (.cells [.bool false, vi ki 0, vi ki 0, vi ki 0, vi ki 0, vi ki 0, vi ki 0, vi ki 0, .int .u8 0, vi ki 0, .string ⟨#[]⟩, vi ki 0, vi ki 0, vi ki 0, vi ki 0, vi ki 0, .int .u8 0, vi ki 0, .string ⟨#[]⟩].toArray 42)) (w.heap.size + 1) [.bool false, vi ki 0, vi ki 0, vi ki 0, vi ki 0, vi ki 0, vi ki 0, vi ki 0, .int .u8 0, vi ki 0, .string ⟨#[]⟩, vi ki 0, vi ki 0, vi ki 0, vi ki 0, vi ki 0, .int .u8 0, vi ki 0, .string ⟨#[]⟩]) := Bx.newAt V _ 42 _ SV
 have HTH : Hid ((V.alloc (.cells [.bool false, vi ki 0, vi ki 0, vi ki 0, vi ki 0, vi ki 0, vi ki 0, vi ki 0, .int .u8 0, vi ki 0, .string ⟨#[]⟩, vi ki 0, vi ki 0, vi ki 0, vi ki 0, vi ki 0, .int .u8 0, vi ki 0, .string ⟨#[]⟩].toArray 42)).there (w.heap.size + 1) 0 FL.toArray.size) := by show World.there _ _ _ _; rw [hA19]; exact X2.out.there
 have B2 : Hid (Below w.heap.size w (V.alloc (.cells [.bool false, vi ki 0, vi ki 0, vi ki 0, vi ki 0, vi ki 0, vi ki 0, vi ki 0, .int .u8 0, vi ki 0, .string ⟨#[]⟩, vi ki 0, vi ki 0, vi ki 0, vi ki 0, vi ki 0, .int .u8 0, vi ki 0, .string ⟨#[]⟩].toArray 42))) := BV.alloc BV.size _
 have X3 : Hid (Bx (V.alloc (.cells [.bool false, vi ki 0, vi ki 0, vi ki 0, vi ki 0, vi ki 0, vi ki 0, vi ki 0, .int .u8 0, vi ki 0, .string ⟨#[]⟩, vi ki 0, vi ki 0, vi ki 0, vi ki 0, vi ki 0, .int .u8 0, vi ki 0, .string ⟨#[]⟩].toArray 42)) w.heap.size (tbL t (.slice ao 0 c))) := XV.alloc _
 clear XV BV
 go_upto_region 2 with (first | (refine wpList_load_mid rfl 42 _ rfl w.heap.size 6 rfl FL _ HR.out Tryz.underlying42 rfl (by rw [hF19]; kernel_rfl) ?_) | (refine wpList_store_mid rfl 42 _ _ rfl (w.heap.size + 1) 0 FL.toArray rfl rfl HTH.out (by rw [hA19]; kernel_rfl) hone ?_; refine gen_list (fun V => Bx V (w.heap.size + 1) FL ∧ Below w.heap.size w V ∧ Bx V w.heap.size (tbL t (.slice ao 0 c))) ⟨X2.out.setAll FL (by rw [hF19]; rfl), below_setCells (Nat.le_succ _) _ _ _ B2.out, X3.out.setOther (by omega) FL 0⟩ ?_; clear X2 B2 X3 HTH HR SV; rintro V2 ⟨XF, BV, XV⟩) | fail)
 have f1 := XF.c 1 hF1
 have HLV : Hid (Cvl.Lens V2) := bel_lens BV HL.out
 have HXF : Hid (Bx V2 (w.heap.size + 1) FL) := XF
 have HXV : Hid (Bx V2 w.heap.size (tbL t (.slice ao 0 c))) := XV
 have HBV : Hid (Below w.heap.size w V2) := BV
 clear XF XV BV
 go_wp2_with fail
 refine (YA.out V2 HLV.out).mono ?_
 rintro e w1 ⟨rfl, hw1⟩
 obtain rfl := hw1.symm
 clear hw1
 have v5 := HXV.out.c 5 (v := .slice ao 0 c) rfl
 go_upto_region 6 with fail
 refine wp_region_held_drew (S := (fun W : World => True)) (by kernel_rfl) trivial (fun hHeld => ?_)
 refine tks 0 ⟨some 22, _, _, _, _, none⟩ rfl ?_
 simp only [za, zb, zc, zd]
 refine tks 1 ⟨some 23, _, _, _, _, none⟩ rfl ?_
 simp only [za, zb, zc, zd]
 refine tks 2 ⟨some 24, _, _, _, _, none⟩ rfl ?_
 simp only [za, zb, zc, zd]
 refine tku 3 ⟨some 25, _, _, _, _, some (2, true)⟩ rfl ?_
 simp only [za, zb, zc, zd]
 refine tku 4 ⟨some 26, _, _, _, _, some (2, true)⟩ rfl ?_
 simp only [za, zb, zc, zd]
 refine tku 5 ⟨some 27, _, _, _, _, some (2, true)⟩ rfl ?_
 simp only [za, zb, zc, zd]
 refine tku 6 ⟨some 28, _, _, _, _, some (2, true)⟩ rfl ?_
 simp only [za, zb, zc, zd]
 refine tku 7 ⟨some 29, _, _, _, _, some (2, true)⟩ rfl ?_
 simp only [za, zb, zc, zd]
 refine tku 8 ⟨some 30, _, _, _, _, some (2, true)⟩ rfl ?_
 simp only [za, zb, zc, zd]
 refine tku 9 ⟨some 31, _, _, _, _, some (2, true)⟩ rfl ?_
 simp only [za, zb, zc, zd]
 refine tku 10 ⟨some 32, _, _, _, _, some (2, true)⟩ rfl ?_
 simp only [za, zb, zc, zd]
 refine tku 11 ⟨some 33, _, _, _, _, some (2, true)⟩ rfl ?_
 simp only [za, zb, zc, zd]
 refine tku 12 ⟨some 34, _, _, _, _, some (2, true)⟩ rfl ?_
 simp only [za, zb, zc, zd]
 refine tks 13 ⟨some 35, _, _, _, _, none⟩ rfl ?_
 simp only [za, zb, zc, zd]
 clear hHeld
 refine wpAnyH_done (by kernel_rfl) ?_ _
 go_upto_region 8 with fail
 refine gen_code (fun V => Bx V (w.heap.size + 1) FL ∧ Below w.heap.size w V) ⟨HXF.out.below ((Below.refl _ _).drew), (HBV.out.trans (((Below.refl _ _).drew).mono HBV.out.size))⟩ ?_
 clear HXF HXV HBV HLV f1 v5
 rintro V3 ⟨XF3, B3⟩
 have f1 := XF3.c 1 hF1
 have HX3 : Hid (Bx V3 (w.heap.size + 1) FL) := XF3
 have HB3 : Hid (Below w.heap.size w V3) := B3
 have FA3 := FA.out V3 (bel_lens B3 HL.out) (HTb.out.below B3)
 rw [hFL] at FA3
 clear XF3 B3 FA
 go_upto_region 9 with (first | (refine wpList_load_mid rfl 42 _ rfl (w.heap.size + 1) 0 rfl FL _ HX3.out.all Tryz.underlying42 rfl (by rw [hF19]; kernel_rfl) ?_) | (refine FA3.mono ?_; clear FA3; rintro e w4 ⟨rfl, hb4⟩) | fail)
 refine gen_code (fun V => V.cell? ⟨w.heap.size + 1, 1, none⟩ = some (vi ki t.foot.fr) ∧ V.cell? ⟨w4.heap.size, 0, none⟩ = some (vi ki p.t) ∧ Below w.heap.size w V) ⟨((HX3.out.below hb4).alloc _).c 1 hF1, (Bx.new w4 [vi ki p.t, vi ki p.o, .bool p.d, .string p.a] 23).c 0 rfl, (HB3.out.trans (hb4.mono HB3.out.size)).alloc (HB3.out.trans (hb4.mono HB3.out.size)).size _⟩ ?_
 clear hb4 HX3 HB3 f1
 rintro V5 ⟨k1, k2, k3⟩
 have HB5 : Hid (Below w.heap.size w V5) := k3
 clear k3
 by_cases her : er = 0
 ·go_wp2
  go_ret
  exact ⟨ret_b9 (by first | (simp [her]; done) | (simp [her]; rfl)), HB5.out⟩
 ·go_wp2
  go_ret
  exact ⟨ret_b9 (by first | (simp [her]; done) | (simp [her]; rfl)), HB5.out⟩
end Go.Proofs.YtklehbmghjcmaaaGreatDoor
namespace Go.Proofs.YtklehbmghjcmaaaGreatDoor
open Go.RowKit Sr
def lastB (L : List TrR) (fr : Int) : Bool := match L[L.length - 1]? with
 | none => true
 | some x => decide (x.at_ < fr)
def RfIs (t : TbR) (b : Bool) : Prop := ∃ y p er, Fn.YAt t.foot.fr y ∧ FAt t.foot t.foot.fr p er ∧ b = (decide (1800 ≤ y) && decide (y ≤ 2110) && lastB t.trs t.foot.fr && (decide (er = 0) && decide (p.t = t.foot.fr)))
theorem rf_any (t : TbR) (sv : Value) (h1 : -9223372036854775808 ≤ t.foot.fr) (h2 : t.foot.fr ≤ 9223372036854775807) :
  ∃ b, RfIs t b ∧ ∀ w : World, Cvl.Lens w → Clk.Tab w → TrAt w sv t.trs → Calls Tryz.prog 75 #[.agg (tbL t sv).toArray] w fun e w' => e = zr (.bool b) ∧ Below w.heap.size w w' := by
 obtain ⟨y, hy⟩ := Fn.yat_is t.foot.fr
 obtain ⟨p, er, hp, FA⟩ := fat_any t.foot t.foot.fr h1 h2
 refine ⟨_, ⟨y, p, er, hy, hp, rfl⟩, fun w hL hT hA => ?_⟩
 have YA : Hid (∀ w : World, Cvl.Lens w → Calls Tryz.prog 124 #[vi ki t.foot.fr] w fun e w' => e = zr (vi ki y) ∧ w' = w) := fun w hw => Fn.yat_any t.foot.fr y hy h1 h2 w hw
 by_cases hr : y < 1800 ∨ 2110 < y
 ·rw [show (decide (1800 ≤ y) && decide (y ≤ 2110)) = false by simp; omega, Bool.false_and, Bool.false_and]
  exact rf_year t sv y hr YA w hL
 ·have y1 : 1800 ≤ y := by omega
  have y2 : y ≤ 2110 := by omega
  rw [show (decide (1800 ≤ y) && decide (y ≤ 2110)) = true by simp [y1, y2], Bool.true_and]
  cases hx : t.trs[t.trs.length - 1]? with
  | none =>
   have h0 : t.trs = [] := by
    have := List.getElem?_eq_none_iff.1 hx
    exact List.eq_nil_of_length_eq_zero (by omega)
   rw [show lastB t.trs t.foot.fr = true by unfold lastB; rw [hx], Bool.true_and]
   exact rf_none t sv y y1 y2 YA p er FA h0 w hL hT hA
  | some x =>
   by_cases hle : t.foot.fr ≤ x.at_
   ·rw [show lastB t.trs t.foot.fr = false by unfold lastB; rw [hx]; simp; omega, Bool.false_and]
    exact rf_last t sv y y1 y2 YA x hx hle w hL hA
   ·rw [show lastB t.trs t.foot.fr = true by unfold lastB; rw [hx]; simp; omega, Bool.true_and]
    exact rf_some t sv y y1 y2 YA p er FA x hx hle w hL hT hA
def zerF : List Value := [.bool false, vi ki 0, vi ki 0, vi ki 0, vi ki 0, vi ki 0, vi ki 0, vi ki 0, .int .u8 0, vi ki 0, .string ⟨#[]⟩, vi ki 0, vi ki 0, vi ki 0, vi ki 0, vi ki 0, .int .u8 0, vi ki 0, .string ⟨#[]⟩]
def halfZ (a : Fn.Hf) : Bool := a.m == 0 && a.k == 0 && a.d == 0 && a.n == 0 && a.s == 0 && a.z == 0 && a.v == 0 && (a.t.toList == [])
def footZ (f : Fn.Ft) : Bool := !f.h && f.fr == 0 && f.off == 0 && halfZ f.A && halfZ f.B
theorem ite_ok {c : Prop} [Decidable c] (r : Bool) (w : World) : (if c then Result.ok r w else Result.ok false w) = Result.ok (decide c && r) w := by split <;> simp [*]
theorem ite_ok' {c : Prop} [Decidable c] (r : Bool) (w : World) : (if c then Result.ok false w else Result.ok r w) = Result.ok (decide (¬ c) && r) w := by split <;> simp [*]
theorem foot_eq (f : Fn.Ft) (w : World) : (Op.equalIn 10000 42 (.agg (Fn.fL f).toArray) (.agg zerF.toArray)).run Tryz.prog w = .ok (footZ f) w := by
 rw [run_equalIn_struct w 9999 42 _ _ (by kernel_rfl) (by kernel_rfl)]
 unfold Fn.fL zerF
 go_simp
 simp only [ite_ok, ite_ok']
 congr 1
 rw [Bool.eq_iff_iff]
 simp only [footZ, halfZ, Bool.and_eq_true, decide_eq_true_eq, beq_iff_eq, Bool.not_eq_true', Bool.not_eq_true, and_assoc, and_true]
end Go.Proofs.YtklehbmghjcmaaaGreatDoor
namespace Go.Proofs.YtklehbmghjcmaaaGreatDoor
open Go.RowKit Sr
open _root_.Go.Proofs.YtklehbmghjcmaaaGreatDoor.Fn (bel_lens)
theorem right_run (t : TbR) (sv : Value) (b r : Bool) (h1 : t.first.at_ = 0) (h2 : offB t.first.off = true) (h3 : t.trs.length ≤ 4096) (hno : (∃ j, j < t.trs.length ∧ ¬ OkTr t.trs j) → b = false)
  (hyes : (∀ j, j < t.trs.length → OkTr t.trs j) → b = (footZ t.foot || r)) (w : World) (HL : Hid (Cvl.Lens w)) (HTb : Hid (Clk.Tab w)) (HT : Hid (TrAt w sv t.trs))
  (RF : Hid (∀ w : World, Cvl.Lens w → Clk.Tab w → TrAt w sv t.trs → Calls Tryz.prog 75 #[.agg (tbL t sv).toArray] w fun e w' => e = zr (.bool r) ∧ Below w.heap.size w w')) :
  Calls Tryz.prog 31 #[.agg (tbL t sv).toArray] w fun e w' => e = zr (.bool b) ∧ Below w.heap.size w w' :=
 right_gen t.nm t.first sv (Fn.fL t.foot) rfl t.trs (footZ t.foot) b r h1 h2 h3 hno hyes (fun W => foot_eq t.foot W) w HT (fun _ W hb => RF.out W (bel_lens hb HL.out) (HTb.out.below hb) (HT.out.mv hb))
end Go.Proofs.YtklehbmghjcmaaaGreatDoor
namespace Go.Proofs.YtklehbmghjcmaaaGreatDoor
open Go.RowKit Sr
theorem right_no1 (t : TbR) (sv : Value) (h1 : ¬ t.first.at_ = 0) (w : World) (HT : Hid (TrAt w sv t.trs)) :
  Calls Tryz.prog 31 #[.agg (tbL t sv).toArray] w fun e w' => e = zr (.bool false) ∧ Below w.heap.size w w' := by
 have X1 : Hid (Bx (w.alloc (.cells (tbL t sv).toArray 44)) w.heap.size (tbL t sv)) := Bx.new w (tbL t sv) 44
 have B1 : Hid (Below w.heap.size w (w.alloc (.cells (tbL t sv).toArray 44))) := (Below.refl _ _).alloc (Nat.le_refl _) _
 obtain ⟨⟨ao, c, hsv⟩, hml, _⟩ := HT.out
 obtain ⟨n, hn⟩ : ∃ n, t.trs.length = n := ⟨_, rfl⟩
 rw [hn] at hsv hml
 try rw [hn] at h3
 subst hsv
 unfold maxLen at hml
 go_enter Tryz.func31, Tryz.ntmps31
 generalize hUA : (tbL t (.slice ao n c)).toArray = UA at *
 go_upto_region 1 with fail
 refine gen_code (fun V => Bx V w.heap.size (tbL t (.slice ao n c)) ∧ Below w.heap.size w V) ⟨X1.out, B1.out⟩ ?_
 clear X1 B1
 rintro V ⟨XV, BV⟩
 have c1 := XV.c 1 (v := vi ki t.first.at_) rfl
 have c2 := XV.c 2 (v := vi ki t.first.off) rfl
 have c5 := XV.c 5 (v := .slice ao n c) rfl
 have HB : Hid (Below w.heap.size w V) := BV
 clear XV BV
 go_wp2_with fail
 go_ret
 exact ⟨rfl, HB.out⟩
theorem right_no2 (t : TbR) (sv : Value) (h1 : t.first.at_ = 0) (h2 : offB t.first.off = false) (w : World) (HT : Hid (TrAt w sv t.trs)) :
  Calls Tryz.prog 31 #[.agg (tbL t sv).toArray] w fun e w' => e = zr (.bool false) ∧ Below w.heap.size w w' := by
 have X1 : Hid (Bx (w.alloc (.cells (tbL t sv).toArray 44)) w.heap.size (tbL t sv)) := Bx.new w (tbL t sv) 44
 have B1 : Hid (Below w.heap.size w (w.alloc (.cells (tbL t sv).toArray 44))) := (Below.refl _ _).alloc (Nat.le_refl _) _
 obtain ⟨⟨ao, c, hsv⟩, hml, _⟩ := HT.out
 obtain ⟨n, hn⟩ : ∃ n, t.trs.length = n := ⟨_, rfl⟩
 rw [hn] at hsv hml
 try rw [hn] at h3
 subst hsv
 unfold maxLen at hml
 go_enter Tryz.func31, Tryz.ntmps31
 generalize hUA : (tbL t (.slice ao n c)).toArray = UA at *
 go_upto_region 1 with fail
 refine gen_code (fun V => Bx V w.heap.size (tbL t (.slice ao n c)) ∧ Below w.heap.size w V) ⟨X1.out, B1.out⟩ ?_
 clear X1 B1
 rintro V ⟨XV, BV⟩
 have c1 := XV.c 1 (v := vi ki t.first.at_) rfl
 have c2 := XV.c 2 (v := vi ki t.first.off) rfl
 have c5 := XV.c 5 (v := .slice ao n c) rfl
 have HB : Hid (Below w.heap.size w V) := BV
 clear XV BV
 go_wp2_with fail
 refine (isOff_any _ _).mono ?_
 rintro e v1 ⟨rfl, hv1⟩
 obtain rfl := hv1.symm
 clear hv1
 rw [h2]
 go_wp2_with fail
 go_ret
 exact ⟨rfl, HB.out⟩
theorem right_no3 (t : TbR) (sv : Value) (h1 : t.first.at_ = 0) (h2 : offB t.first.off = true) (h3 : 4096 < t.trs.length) (w : World) (HT : Hid (TrAt w sv t.trs)) :
  Calls Tryz.prog 31 #[.agg (tbL t sv).toArray] w fun e w' => e = zr (.bool false) ∧ Below w.heap.size w w' := by
 have X1 : Hid (Bx (w.alloc (.cells (tbL t sv).toArray 44)) w.heap.size (tbL t sv)) := Bx.new w (tbL t sv) 44
 have B1 : Hid (Below w.heap.size w (w.alloc (.cells (tbL t sv).toArray 44))) := (Below.refl _ _).alloc (Nat.le_refl _) _
 obtain ⟨⟨ao, c, hsv⟩, hml, _⟩ := HT.out
 obtain ⟨n, hn⟩ : ∃ n, t.trs.length = n := ⟨_, rfl⟩
 rw [hn] at hsv hml
 try rw [hn] at h3
 subst hsv
 unfold maxLen at hml
 go_enter Tryz.func31, Tryz.ntmps31
 generalize hUA : (tbL t (.slice ao n c)).toArray = UA at *
 go_upto_region 1 with fail
 refine gen_code (fun V => Bx V w.heap.size (tbL t (.slice ao n c)) ∧ Below w.heap.size w V) ⟨X1.out, B1.out⟩ ?_
 clear X1 B1
 rintro V ⟨XV, BV⟩
 have c1 := XV.c 1 (v := vi ki t.first.at_) rfl
 have c2 := XV.c 2 (v := vi ki t.first.off) rfl
 have c5 := XV.c 5 (v := .slice ao n c) rfl
 have HB : Hid (Below w.heap.size w V) := BV
 clear XV BV
 go_wp2_with fail
 refine (isOff_any _ _).mono ?_
 rintro e v1 ⟨rfl, hv1⟩
 obtain rfl := hv1.symm
 clear hv1
 rw [h2]
 go_wp2_with fail
 go_ret
 exact ⟨rfl, HB.out⟩
def RightIs (t : TbR) (b : Bool) : Prop := ∃ r, RfIs t r ∧ (b = true ↔ t.first.at_ = 0 ∧ offB t.first.off = true ∧ t.trs.length ≤ 4096 ∧ (∀ j, j < t.trs.length → OkTr t.trs j) ∧ (footZ t.foot = true ∨ r = true))
theorem right_any (t : TbR) (sv : Value) (f1 : -9223372036854775808 ≤ t.foot.fr) (f2 : t.foot.fr ≤ 9223372036854775807) :
  ∃ b, RightIs t b ∧ ∀ w : World, Cvl.Lens w → Clk.Tab w → TrAt w sv t.trs → Calls Tryz.prog 31 #[.agg (tbL t sv).toArray] w fun e w' => e = zr (.bool b) ∧ Below w.heap.size w w' := by
 obtain ⟨r, hr, RF⟩ := rf_any t sv f1 f2
 by_cases h1 : t.first.at_ = 0
 ·cases h2 : offB t.first.off
  ·exact ⟨false, ⟨r, hr, by simp [h2]⟩, fun w _ _ hA => right_no2 t sv h1 h2 w hA⟩
  ·by_cases h3 : t.trs.length ≤ 4096
   ·by_cases h4 : ∀ j, j < t.trs.length → OkTr t.trs j
    ·refine ⟨footZ t.foot || r, ⟨r, hr, ?_⟩, fun w hL hT hA => right_run t sv _ r h1 h2 h3 (fun ⟨j, a, k⟩ => absurd (h4 j a) k) (fun _ => rfl) w hL hT hA RF⟩
     rw [Bool.or_eq_true]
     exact ⟨fun h => ⟨h1, h2, h3, h4, h⟩, fun h => h.2.2.2.2⟩
    ·refine ⟨false, ⟨r, hr, ?_⟩, fun w hL hT hA => right_run t sv _ r h1 h2 h3 (fun _ => rfl) (fun h => absurd h h4) w hL hT hA RF⟩
     exact ⟨fun h => (nomatch h), fun h => absurd h.2.2.2.1 h4⟩
   ·refine ⟨false, ⟨r, hr, ?_⟩, fun w _ _ hA => right_no3 t sv h1 h2 (by omega) w hA⟩
    exact ⟨fun h => (nomatch h), fun h => absurd h.2.2.1 h3⟩
 ·refine ⟨false, ⟨r, hr, ?_⟩, fun w _ _ hA => right_no1 t sv h1 w hA⟩
  exact ⟨fun h => (nomatch h), fun h => absurd h.1 h1⟩
theorem rfoot_eq (f : Fn.Ft) (w : World) : (Op.equalIn 10000 32 (.agg (Fn.fL f).toArray) (.agg zeF.toArray)).run Tryz.prog w = .ok (footZ f) w := by
 rw [run_equalIn_struct w 9999 32 _ _ (by kernel_rfl) (by kernel_rfl)]
 unfold Fn.fL zeF
 go_simp
 simp only [ite_ok, ite_ok']
 congr 1
 rw [Bool.eq_iff_iff]
 simp only [footZ, halfZ, Bool.and_eq_true, decide_eq_true_eq, beq_iff_eq, Bool.not_eq_true', Bool.not_eq_true, and_assoc, and_true]
end Go.Proofs.YtklehbmghjcmaaaGreatDoor
