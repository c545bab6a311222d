import Derived.Test.YtklehbmghjcmaaaGreatDoorSz
import Derived.Test.YtklehbmghjcmaaaGreatDoorS30
open Go.Value renaming int → vi
open Go.IntKind renaming i64 → ki
open List renaming setIfInBounds_toArray → zb, set_cons_zero → zc, set_cons_succ → zd
open Go.Act renaming put → za
open Go.Ending renaming returned → zr
set_option maxRecDepth 100000
set_option maxHeartbeats 16000000
set_option linter.unusedVariables false
namespace Go.Proofs.YtklehbmghjcmaaaGreatDoor.Fn
open Go.RowKit
theorem rshift_run (h g : Hf) (off y V E R : Int)
  (DY : Hid (∀ w : World, Calls Tryz.prog 207 #[vi ki y, vi ki h.m, .agg #[vi ki h.k, vi ki h.d, vi ki h.n]] w fun e w' => e = zr (.tuple #[vi ki V, vi ki E]) ∧ Below w.heap.size w w'))
  (IN : Hid (∀ w : World, Calls Tryz.prog 208 #[vi ki V, vi ki h.s, .int .u8 h.z, vi ki off, vi ki g.v] w fun e w' => e = zr (vi ki R) ∧ w' = w))
  (o1 : -50400 ≤ off) (o2 : off ≤ 50400) (v1 : 0 ≤ h.v) (v2 : h.v ≤ 7200) (w : World) :
  Calls Tryz.prog 182 #[.agg #[vi ki h.m, vi ki h.k, vi ki h.d, vi ki h.n, vi ki h.s, .int .u8 h.z, vi ki h.v, .string h.t], .agg #[vi ki g.m, vi ki g.k, vi ki g.d, vi ki g.n, vi ki g.s, .int .u8 g.z, vi ki g.v, .string g.t], vi ki off, vi ki y] w fun e w' => e = zr (.agg #[vi ki R, vi ki (off + h.v), .bool (h.v != 0), .string h.t]) ∧ Below w.heap.size w w' := by
 have HB : Hid (Below w.heap.size w (((w.alloc (.cells #[vi ki h.m, vi ki h.k, vi ki h.d, vi ki h.n, vi ki h.s, .int .u8 h.z, vi ki h.v, .string h.t] 30)).alloc (.cells #[vi ki g.m, vi ki g.k, vi ki g.d, vi ki g.n, vi ki g.s, .int .u8 g.z, vi ki g.v, .string g.t] 30)).alloc (.cells #[vi ki 0, vi ki 0, .bool false, .string ⟨#[]⟩] 23))) := ((((Below.refl _ _).alloc (by simp <;> omega) _).alloc (by simp <;> omega) _).alloc (by simp <;> omega) _)
 have X0 : Hid (Bx (((w.alloc (.cells #[vi ki h.m, vi ki h.k, vi ki h.d, vi ki h.n, vi ki h.s, .int .u8 h.z, vi ki h.v, .string h.t] 30)).alloc (.cells #[vi ki g.m, vi ki g.k, vi ki g.d, vi ki g.n, vi ki g.s, .int .u8 g.z, vi ki g.v, .string g.t] 30)).alloc (.cells #[vi ki 0, vi ki 0, .bool false, .string ⟨#[]⟩] 23)) (w.heap.size) (hL h)) := (((Bx.newAt w (hL h) _ _ (by simp)).alloc _).alloc _)
 have X1 : Hid (Bx (((w.alloc (.cells #[vi ki h.m, vi ki h.k, vi ki h.d, vi ki h.n, vi ki h.s, .int .u8 h.z, vi ki h.v, .string h.t] 30)).alloc (.cells #[vi ki g.m, vi ki g.k, vi ki g.d, vi ki g.n, vi ki g.s, .int .u8 g.z, vi ki g.v, .string g.t] 30)).alloc (.cells #[vi ki 0, vi ki 0, .bool false, .string ⟨#[]⟩] 23)) (w.heap.size + 1) (hL g)) := ((Bx.newAt (w.alloc (.cells #[vi ki h.m, vi ki h.k, vi ki h.d, vi ki h.n, vi ki h.s, .int .u8 h.z, vi ki h.v, .string h.t] 30)) (hL g) _ _ (by simp)).alloc _)
 have X2 : Hid (Bx (((w.alloc (.cells #[vi ki h.m, vi ki h.k, vi ki h.d, vi ki h.n, vi ki h.s, .int .u8 h.z, vi ki h.v, .string h.t] 30)).alloc (.cells #[vi ki g.m, vi ki g.k, vi ki g.d, vi ki g.n, vi ki g.s, .int .u8 g.z, vi ki g.v, .string g.t] 30)).alloc (.cells #[vi ki 0, vi ki 0, .bool false, .string ⟨#[]⟩] 23)) (w.heap.size + 2) (z4)) := (Bx.newAt ((w.alloc (.cells #[vi ki h.m, vi ki h.k, vi ki h.d, vi ki h.n, vi ki h.s, .int .u8 h.z, vi ki h.v, .string h.t] 30)).alloc (.cells #[vi ki g.m, vi ki g.k, vi ki g.d, vi ki g.n, vi ki g.s, .int .u8 g.z, vi ki g.v, .string g.t] 30)) (z4) _ _ (by simp))
 go_enter Tryz.func182, Tryz.ntmps182
 go_wp2_with fail
 refine (DY.out _).mono ?_
 rintro e w1 ⟨rfl, hb⟩
 have HB1 : Hid (Below w.heap.size w w1) := HB.out.trans (hb.mono HB.out.size)
 have Y0 := X0.out.below hb
 have Y1 := X1.out.below hb
 have Y2 := X2.out.below hb
 clear hb HB X0 X1 X2
 have c1 : w1.cell? ⟨w.heap.size, 4, none⟩ = some (vi ki h.s) := Y0.c 4 rfl
 have c2 : w1.cell? ⟨w.heap.size, 5, none⟩ = some (.int .u8 h.z) := Y0.c 5 rfl
 have c4 : w1.cell? ⟨w.heap.size + 1, 6, none⟩ = some (vi ki g.v) := Y1.c 6 rfl
 have c5 : w1.cell? ⟨w.heap.size, 6, none⟩ = some (vi ki h.v) := Y0.c 6 rfl
 have c6 : w1.cell? ⟨w.heap.size, 7, none⟩ = some (.string h.t) := Y0.c 7 rfl
 have d0 := Y2.c 0 rfl
 have d1 := Y2.c 1 rfl
 have d2 := Y2.c 2 rfl
 have d3 := Y2.c 3 rfl
 have f0 := Y2.f 0 rfl
 have f1 := Y2.f 1 rfl
 have f2 := Y2.f 2 rfl
 have f3 := Y2.f 3 rfl
 clear Y0 Y1 Y2
 go_wp2_with fail
 refine (IN.out _).mono ?_
 rintro e w2 ⟨rfl, rfl⟩
 obtain ⟨y1, y2, y3, y4⟩ := four_set (x := vi ki R) (y := vi ki (off + h.v)) (z := .bool (h.v != 0)) (u := .string h.t) d0 d1 d2 d3
 unfold set4 at y1 y2 y3 y4
 simp only [Nat.zero_add] at y1 y2 y3 y4
 go_wp2
 refine bodyPost_ret (v := .agg #[vi ki R, vi ki (off + h.v), .bool (h.v != 0), .string h.t]) (by simp [results, Tryz.results182, go_sem, y1, y2, y3, y4]) rfl ⟨rfl, ?_⟩
 exact below_set4 (i := 0) HB1.out (by omega) _ _ _ _
theorem rshift_any (h g : Hf) (off y : Int) (hh : okH h = true) (hg : okH g = true) (o1 : -50400 ≤ off) (o2 : off ≤ 50400) (hy : dyY y) (w : World) :
  Calls Tryz.prog 182 #[.agg #[vi ki h.m, vi ki h.k, vi ki h.d, vi ki h.n, vi ki h.s, .int .u8 h.z, vi ki h.v, .string h.t], .agg #[vi ki g.m, vi ki g.k, vi ki g.d, vi ki g.n, vi ki g.s, .int .u8 g.z, vi ki g.v, .string g.t], vi ki off, vi ki y] w fun e w' => e = zr (.agg #[vi ki (trOf off h g y).t, vi ki (trOf off h g y).o, .bool (trOf off h g y).d, .string (trOf off h g y).a]) ∧ Below w.heap.size w w' := by
 obtain ⟨a1, a2, a3, a4⟩ := okH_of hh
 obtain ⟨b1, b2, b3, b4⟩ := okH_of hg
 obtain ⟨v1, v2⟩ := dyV_bd a1 hy
 obtain ⟨s1, s2, s3⟩ := a2
 exact rshift_run h g off y _ _ _ (fun w => rday_any y h.m h.k h.d h.n w) (fun w => rinst_any _ h.s h.z off g.v v1 v2 s1 s2 o1 o2 b3 b4 w) o1 o2 a3 a4 w
theorem ryear_ab (f : Ft) (y : Int) (p q : Tr) (h1 : ¬ y ≤ -4718) (h2 : ¬ 294282 ≤ y) (hm : f.A.m < f.B.m)
  (RC : Hid (∀ w : World, Calls Tryz.prog 151 #[.agg #[.bool f.h, vi ki f.fr, vi ki f.off, vi ki f.A.m, vi ki f.A.k, vi ki f.A.d, vi ki f.A.n, vi ki f.A.s, .int .u8 f.A.z, vi ki f.A.v, .string f.A.t, vi ki f.B.m, vi ki f.B.k, vi ki f.B.d, vi ki f.B.n, vi ki f.B.s, .int .u8 f.B.z, vi ki f.B.v, .string f.B.t]] w fun e w' => e = zr (.bool true) ∧ Below w.heap.size w w'))
  (SA : Hid (∀ w : World, Cvl.Lens w → Clk.Tab w → Calls Tryz.prog 182 #[.agg #[vi ki f.A.m, vi ki f.A.k, vi ki f.A.d, vi ki f.A.n, vi ki f.A.s, .int .u8 f.A.z, vi ki f.A.v, .string f.A.t], .agg #[vi ki f.B.m, vi ki f.B.k, vi ki f.B.d, vi ki f.B.n, vi ki f.B.s, .int .u8 f.B.z, vi ki f.B.v, .string f.B.t], vi ki f.off, vi ki y] w fun e w' => e = zr (.agg #[vi ki p.t, vi ki p.o, .bool p.d, .string p.a]) ∧ Below w.heap.size w w'))
  (SB : Hid (∀ w : World, Cvl.Lens w → Clk.Tab w → Calls Tryz.prog 182 #[.agg #[vi ki f.B.m, vi ki f.B.k, vi ki f.B.d, vi ki f.B.n, vi ki f.B.s, .int .u8 f.B.z, vi ki f.B.v, .string f.B.t], .agg #[vi ki f.A.m, vi ki f.A.k, vi ki f.A.d, vi ki f.A.n, vi ki f.A.s, .int .u8 f.A.z, vi ki f.A.v, .string f.A.t], vi ki f.off, vi ki y] w fun e w' => e = zr (.agg #[vi ki q.t, vi ki q.o, .bool q.d, .string q.a]) ∧ Below w.heap.size w w'))
  (w : World) (hL0 : Hid (Cvl.Lens w)) (hT0 : Hid (Clk.Tab w)) :
  Calls Tryz.prog 136 #[.agg #[.bool f.h, vi ki f.fr, vi ki f.off, vi ki f.A.m, vi ki f.A.k, vi ki f.A.d, vi ki f.A.n, vi ki f.A.s, .int .u8 f.A.z, vi ki f.A.v, .string f.A.t, vi ki f.B.m, vi ki f.B.k, vi ki f.B.d, vi ki f.B.n, vi ki f.B.s, .int .u8 f.B.z, vi ki f.B.v, .string f.B.t], vi ki y] w fun e w' => ∃ g, e = zr (.tuple #[.slice (some ⟨g, 0, none⟩) 2 2, vi ki 0]) ∧ Bx w' g [vi ki p.t, vi ki p.o, .bool p.d, .string p.a, vi ki q.t, vi ki q.o, .bool q.d, .string q.a] ∧ Below w.heap.size w w' ∧ (∃ cur fz, w'.heap[g]? = some (.cells cur 23 fz)) := by
 have B0 : Hid (Below w.heap.size w (w.alloc (.cells #[.bool f.h, vi ki f.fr, vi ki f.off, vi ki f.A.m, vi ki f.A.k, vi ki f.A.d, vi ki f.A.n, vi ki f.A.s, .int .u8 f.A.z, vi ki f.A.v, .string f.A.t, vi ki f.B.m, vi ki f.B.k, vi ki f.B.d, vi ki f.B.n, vi ki f.B.s, .int .u8 f.B.z, vi ki f.B.v, .string f.B.t] 32))) := (Below.refl _ _).alloc (Nat.le_refl _) _
 have X0 : Hid (Bx (w.alloc (.cells #[.bool f.h, vi ki f.fr, vi ki f.off, vi ki f.A.m, vi ki f.A.k, vi ki f.A.d, vi ki f.A.n, vi ki f.A.s, .int .u8 f.A.z, vi ki f.A.v, .string f.A.t, vi ki f.B.m, vi ki f.B.k, vi ki f.B.d, vi ki f.B.n, vi ki f.B.s, .int .u8 f.B.z, vi ki f.B.v, .string f.B.t] 32)) w.heap.size [.bool f.h, vi ki f.fr, vi ki f.off, vi ki f.A.m, vi ki f.A.k, vi ki f.A.d, vi ki f.A.n, vi ki f.A.s, .int .u8 f.A.z, vi ki f.A.v, .string f.A.t, vi ki f.B.m, vi ki f.B.k, vi ki f.B.d, vi ki f.B.n, vi ki f.B.s, .int .u8 f.B.z, vi ki f.B.v, .string f.B.t]) := Bx.new w [.bool f.h, vi ki f.fr, vi ki f.off, vi ki f.A.m, vi ki f.A.k, vi ki f.A.d, vi ki f.A.n, vi ki f.A.s, .int .u8 f.A.z, vi ki f.A.v, .string f.A.t, vi ki f.B.m, vi ki f.B.k, vi ki f.B.d, vi ki f.B.n, vi ki f.B.s, .int .u8 f.B.z, vi ki f.B.v, .string f.B.t] _
 go_enter Tryz.func136, Tryz.ntmps136
 go_wp2_with (first | (refine wpList_load_mid rfl 32 _ rfl w.heap.size 0 rfl [.bool f.h, vi ki f.fr, vi ki f.off, vi ki f.A.m, vi ki f.A.k, vi ki f.A.d, vi ki f.A.n, vi ki f.A.s, .int .u8 f.A.z, vi ki f.A.v, .string f.A.t, vi ki f.B.m, vi ki f.B.k, vi ki f.B.d, vi ki f.B.n, vi ki f.B.s, .int .u8 f.B.z, vi ki f.B.v, .string f.B.t] _ X0.out.all Tryz.underlying32 rfl (by kernel_rfl) ?_) | fail)
 refine (RC.out _).mono ?_
 rintro e w1 ⟨rfl, hb⟩
 have GB1 : Hid (Below w.heap.size w w1) := B0.out.trans (hb.mono B0.out.size)
 have G1_0 : Hid (Bx w1 w.heap.size [.bool f.h, vi ki f.fr, vi ki f.off, vi ki f.A.m, vi ki f.A.k, vi ki f.A.d, vi ki f.A.n, vi ki f.A.s, .int .u8 f.A.z, vi ki f.A.v, .string f.A.t, vi ki f.B.m, vi ki f.B.k, vi ki f.B.d, vi ki f.B.n, vi ki f.B.s, .int .u8 f.B.z, vi ki f.B.v, .string f.B.t]) := X0.out.below hb
 have c2 := G1_0.out.c 2 rfl
 clear hb B0 X0 RC
 go_wp2_with (first | (refine wpList_load_mid rfl 30 _ rfl w.heap.size 3 rfl [vi ki f.A.m, vi ki f.A.k, vi ki f.A.d, vi ki f.A.n, vi ki f.A.s, .int .u8 f.A.z, vi ki f.A.v, .string f.A.t] _ (G1_0.out.rng [.bool f.h, vi ki f.fr, vi ki f.off] [vi ki f.A.m, vi ki f.A.k, vi ki f.A.d, vi ki f.A.n, vi ki f.A.s, .int .u8 f.A.z, vi ki f.A.v, .string f.A.t] [vi ki f.B.m, vi ki f.B.k, vi ki f.B.d, vi ki f.B.n, vi ki f.B.s, .int .u8 f.B.z, vi ki f.B.v, .string f.B.t] rfl) Tryz.underlying30 rfl (by kernel_rfl) ?_) | (refine wpList_load_mid rfl 30 _ rfl w.heap.size 11 rfl [vi ki f.B.m, vi ki f.B.k, vi ki f.B.d, vi ki f.B.n, vi ki f.B.s, .int .u8 f.B.z, vi ki f.B.v, .string f.B.t] _ (G1_0.out.rng [.bool f.h, vi ki f.fr, vi ki f.off, vi ki f.A.m, vi ki f.A.k, vi ki f.A.d, vi ki f.A.n, vi ki f.A.s, .int .u8 f.A.z, vi ki f.A.v, .string f.A.t] [vi ki f.B.m, vi ki f.B.k, vi ki f.B.d, vi ki f.B.n, vi ki f.B.s, .int .u8 f.B.z, vi ki f.B.v, .string f.B.t] [] rfl) Tryz.underlying30 rfl (by kernel_rfl) ?_) | fail)
 refine (SA.out _ (bel_lens GB1.out hL0.out) (hT0.out.below GB1.out)).mono ?_
 rintro e w2 ⟨rfl, hb⟩
 have Z2_0 : Hid (Bx (w2.alloc (.cells #[vi ki 0, vi ki 0, .bool false, .string ⟨#[]⟩] 23)) w.heap.size [.bool f.h, vi ki f.fr, vi ki f.off, vi ki f.A.m, vi ki f.A.k, vi ki f.A.d, vi ki f.A.n, vi ki f.A.s, .int .u8 f.A.z, vi ki f.A.v, .string f.A.t, vi ki f.B.m, vi ki f.B.k, vi ki f.B.d, vi ki f.B.n, vi ki f.B.s, .int .u8 f.B.z, vi ki f.B.v, .string f.B.t]) := (G1_0.out.below hb).alloc _
 have Z2_0l : Hid (w.heap.size < w2.heap.size) := (G1_0.out.below hb).1
 have ZN2 : Hid (Bx (w2.alloc (.cells #[vi ki 0, vi ki 0, .bool false, .string ⟨#[]⟩] 23)) w2.heap.size z4) := Bx.new w2 z4 _
 have ZL2 : Hid (w.heap.size ≤ w2.heap.size) := (GB1.out.trans (hb.mono GB1.out.size)).size
 have ZB2 : Hid (Below w.heap.size w (w2.alloc (.cells #[vi ki 0, vi ki 0, .bool false, .string ⟨#[]⟩] 23))) := (GB1.out.trans (hb.mono GB1.out.size)).alloc ZL2.out _
 clear hb SA G1_0 GB1 c2
 go_wp2_with (first | (refine wpList_store_mid rfl 23 _ _ rfl w2.heap.size 0 #[vi ki p.t, vi ki p.o, .bool p.d, .string p.a] rfl rfl ZN2.out.there (by kernel_rfl) (tL_one p) ?_; refine gen_list (fun V => Bx V w.heap.size [.bool f.h, vi ki f.fr, vi ki f.off, vi ki f.A.m, vi ki f.A.k, vi ki f.A.d, vi ki f.A.n, vi ki f.A.s, .int .u8 f.A.z, vi ki f.A.v, .string f.A.t, vi ki f.B.m, vi ki f.B.k, vi ki f.B.d, vi ki f.B.n, vi ki f.B.s, .int .u8 f.B.z, vi ki f.B.v, .string f.B.t] ∧ Bx V w2.heap.size (tL p) ∧ Below w.heap.size w V) ⟨Z2_0.out.setOther (by have := Z2_0l.out; omega) (tL p), ZN2.out.setAll (tL p) rfl, below_setCells (by have := ZL2.out; omega) _ _ _ ZB2.out⟩ ?_; clear Z2_0 Z2_0l ZN2 ZB2; rintro V2 ⟨e2_0, eN2, eB2⟩; have G2_0 : Hid (Bx V2 w.heap.size [.bool f.h, vi ki f.fr, vi ki f.off, vi ki f.A.m, vi ki f.A.k, vi ki f.A.d, vi ki f.A.n, vi ki f.A.s, .int .u8 f.A.z, vi ki f.A.v, .string f.A.t, vi ki f.B.m, vi ki f.B.k, vi ki f.B.d, vi ki f.B.n, vi ki f.B.s, .int .u8 f.B.z, vi ki f.B.v, .string f.B.t]) := e2_0; have G2_1 : Hid (Bx V2 w2.heap.size (tL p)) := eN2; have GB2 : Hid (Below w.heap.size w V2) := eB2; clear e2_0 eN2 eB2; have c2 := G2_0.out.c 2 rfl) | (refine wpList_load_mid rfl 30 _ rfl w.heap.size 3 rfl [vi ki f.A.m, vi ki f.A.k, vi ki f.A.d, vi ki f.A.n, vi ki f.A.s, .int .u8 f.A.z, vi ki f.A.v, .string f.A.t] _ (G2_0.out.rng [.bool f.h, vi ki f.fr, vi ki f.off] [vi ki f.A.m, vi ki f.A.k, vi ki f.A.d, vi ki f.A.n, vi ki f.A.s, .int .u8 f.A.z, vi ki f.A.v, .string f.A.t] [vi ki f.B.m, vi ki f.B.k, vi ki f.B.d, vi ki f.B.n, vi ki f.B.s, .int .u8 f.B.z, vi ki f.B.v, .string f.B.t] rfl) Tryz.underlying30 rfl (by kernel_rfl) ?_) | (refine wpList_load_mid rfl 30 _ rfl w.heap.size 11 rfl [vi ki f.B.m, vi ki f.B.k, vi ki f.B.d, vi ki f.B.n, vi ki f.B.s, .int .u8 f.B.z, vi ki f.B.v, .string f.B.t] _ (G2_0.out.rng [.bool f.h, vi ki f.fr, vi ki f.off, vi ki f.A.m, vi ki f.A.k, vi ki f.A.d, vi ki f.A.n, vi ki f.A.s, .int .u8 f.A.z, vi ki f.A.v, .string f.A.t] [vi ki f.B.m, vi ki f.B.k, vi ki f.B.d, vi ki f.B.n, vi ki f.B.s, .int .u8 f.B.z, vi ki f.B.v, .string f.B.t] [] rfl) Tryz.underlying30 rfl (by kernel_rfl) ?_) | fail)
 refine (SB.out _ (bel_lens GB2.out hL0.out) (hT0.out.below GB2.out)).mono ?_
 rintro e w3 ⟨rfl, hb⟩
 have Z3_0 : Hid (Bx (w3.alloc (.cells #[vi ki 0, vi ki 0, .bool false, .string ⟨#[]⟩] 23)) w.heap.size [.bool f.h, vi ki f.fr, vi ki f.off, vi ki f.A.m, vi ki f.A.k, vi ki f.A.d, vi ki f.A.n, vi ki f.A.s, .int .u8 f.A.z, vi ki f.A.v, .string f.A.t, vi ki f.B.m, vi ki f.B.k, vi ki f.B.d, vi ki f.B.n, vi ki f.B.s, .int .u8 f.B.z, vi ki f.B.v, .string f.B.t]) := (G2_0.out.below hb).alloc _
 have Z3_0l : Hid (w.heap.size < w3.heap.size) := (G2_0.out.below hb).1
 have Z3_1 : Hid (Bx (w3.alloc (.cells #[vi ki 0, vi ki 0, .bool false, .string ⟨#[]⟩] 23)) w2.heap.size (tL p)) := (G2_1.out.below hb).alloc _
 have Z3_1l : Hid (w2.heap.size < w3.heap.size) := (G2_1.out.below hb).1
 have ZN3 : Hid (Bx (w3.alloc (.cells #[vi ki 0, vi ki 0, .bool false, .string ⟨#[]⟩] 23)) w3.heap.size z4) := Bx.new w3 z4 _
 have ZL3 : Hid (w.heap.size ≤ w3.heap.size) := (GB2.out.trans (hb.mono GB2.out.size)).size
 have ZB3 : Hid (Below w.heap.size w (w3.alloc (.cells #[vi ki 0, vi ki 0, .bool false, .string ⟨#[]⟩] 23))) := (GB2.out.trans (hb.mono GB2.out.size)).alloc ZL3.out _
 clear hb SB G2_0 G2_1 GB2 c2
 go_wp2_with (first | (refine wpList_store_mid rfl 23 _ _ rfl w3.heap.size 0 #[vi ki q.t, vi ki q.o, .bool q.d, .string q.a] rfl rfl ZN3.out.there (by kernel_rfl) (tL_one q) ?_; refine gen_list (fun V => Bx V w.heap.size [.bool f.h, vi ki f.fr, vi ki f.off, vi ki f.A.m, vi ki f.A.k, vi ki f.A.d, vi ki f.A.n, vi ki f.A.s, .int .u8 f.A.z, vi ki f.A.v, .string f.A.t, vi ki f.B.m, vi ki f.B.k, vi ki f.B.d, vi ki f.B.n, vi ki f.B.s, .int .u8 f.B.z, vi ki f.B.v, .string f.B.t] ∧ Bx V w2.heap.size (tL p) ∧ Bx V w3.heap.size (tL q) ∧ Below w.heap.size w V) ⟨Z3_0.out.setOther (by have := Z3_0l.out; omega) (tL q), Z3_1.out.setOther (by have := Z3_1l.out; omega) (tL q), ZN3.out.setAll (tL q) rfl, below_setCells (by have := ZL3.out; omega) _ _ _ ZB3.out⟩ ?_; clear Z3_0 Z3_0l Z3_1 Z3_1l ZN3 ZB3; rintro V3 ⟨e3_0, e3_1, eN3, eB3⟩; have G3_0 : Hid (Bx V3 w.heap.size [.bool f.h, vi ki f.fr, vi ki f.off, vi ki f.A.m, vi ki f.A.k, vi ki f.A.d, vi ki f.A.n, vi ki f.A.s, .int .u8 f.A.z, vi ki f.A.v, .string f.A.t, vi ki f.B.m, vi ki f.B.k, vi ki f.B.d, vi ki f.B.n, vi ki f.B.s, .int .u8 f.B.z, vi ki f.B.v, .string f.B.t]) := e3_0; have G3_1 : Hid (Bx V3 w2.heap.size (tL p)) := e3_1; have G3_2 : Hid (Bx V3 w3.heap.size (tL q)) := eN3; have GB3 : Hid (Below w.heap.size w V3) := eB3; clear e3_0 e3_1 eN3 eB3; have c3 := G3_0.out.c 3 rfl; have c11 := G3_0.out.c 11 rfl; have p0 := G3_1.out.c 0 rfl; have q0 := G3_2.out.c 0 rfl; have p1 := G3_1.out.c 1 rfl; have q1 := G3_2.out.c 1 rfl; have p2 := G3_1.out.c 2 rfl; have q2 := G3_2.out.c 2 rfl; have p3 := G3_1.out.c 3 rfl; have q3 := G3_2.out.c 3 rfl) | fail)
 go_ret2
 exact ⟨_, rfl, Bx.new _ [vi ki p.t, vi ki p.o, .bool p.d, .string p.a, vi ki q.t, vi ki q.o, .bool q.d, .string q.a] _, GB3.out.alloc GB3.out.size _, ⟨_, _, heap_alloc_new _ _⟩⟩
theorem ryear_ba (f : Ft) (y : Int) (p q : Tr) (h1 : ¬ y ≤ -4718) (h2 : ¬ 294282 ≤ y) (hm : ¬ f.A.m < f.B.m)
  (RC : Hid (∀ w : World, Calls Tryz.prog 151 #[.agg #[.bool f.h, vi ki f.fr, vi ki f.off, vi ki f.A.m, vi ki f.A.k, vi ki f.A.d, vi ki f.A.n, vi ki f.A.s, .int .u8 f.A.z, vi ki f.A.v, .string f.A.t, vi ki f.B.m, vi ki f.B.k, vi ki f.B.d, vi ki f.B.n, vi ki f.B.s, .int .u8 f.B.z, vi ki f.B.v, .string f.B.t]] w fun e w' => e = zr (.bool true) ∧ Below w.heap.size w w'))
  (SA : Hid (∀ w : World, Cvl.Lens w → Clk.Tab w → Calls Tryz.prog 182 #[.agg #[vi ki f.A.m, vi ki f.A.k, vi ki f.A.d, vi ki f.A.n, vi ki f.A.s, .int .u8 f.A.z, vi ki f.A.v, .string f.A.t], .agg #[vi ki f.B.m, vi ki f.B.k, vi ki f.B.d, vi ki f.B.n, vi ki f.B.s, .int .u8 f.B.z, vi ki f.B.v, .string f.B.t], vi ki f.off, vi ki y] w fun e w' => e = zr (.agg #[vi ki p.t, vi ki p.o, .bool p.d, .string p.a]) ∧ Below w.heap.size w w'))
  (SB : Hid (∀ w : World, Cvl.Lens w → Clk.Tab w → Calls Tryz.prog 182 #[.agg #[vi ki f.B.m, vi ki f.B.k, vi ki f.B.d, vi ki f.B.n, vi ki f.B.s, .int .u8 f.B.z, vi ki f.B.v, .string f.B.t], .agg #[vi ki f.A.m, vi ki f.A.k, vi ki f.A.d, vi ki f.A.n, vi ki f.A.s, .int .u8 f.A.z, vi ki f.A.v, .string f.A.t], vi ki f.off, vi ki y] w fun e w' => e = zr (.agg #[vi ki q.t, vi ki q.o, .bool q.d, .string q.a]) ∧ Below w.heap.size w w'))
  (w : World) (hL0 : Hid (Cvl.Lens w)) (hT0 : Hid (Clk.Tab w)) :
  Calls Tryz.prog 136 #[.agg #[.bool f.h, vi ki f.fr, vi ki f.off, vi ki f.A.m, vi ki f.A.k, vi ki f.A.d, vi ki f.A.n, vi ki f.A.s, .int .u8 f.A.z, vi ki f.A.v, .string f.A.t, vi ki f.B.m, vi ki f.B.k, vi ki f.B.d, vi ki f.B.n, vi ki f.B.s, .int .u8 f.B.z, vi ki f.B.v, .string f.B.t], vi ki y] w fun e w' => ∃ g, e = zr (.tuple #[.slice (some ⟨g, 0, none⟩) 2 2, vi ki 0]) ∧ Bx w' g [vi ki q.t, vi ki q.o, .bool q.d, .string q.a, vi ki p.t, vi ki p.o, .bool p.d, .string p.a] ∧ Below w.heap.size w w' ∧ (∃ cur fz, w'.heap[g]? = some (.cells cur 23 fz)) := by
 have B0 : Hid (Below w.heap.size w (w.alloc (.cells #[.bool f.h, vi ki f.fr, vi ki f.off, vi ki f.A.m, vi ki f.A.k, vi ki f.A.d, vi ki f.A.n, vi ki f.A.s, .int .u8 f.A.z, vi ki f.A.v, .string f.A.t, vi ki f.B.m, vi ki f.B.k, vi ki f.B.d, vi ki f.B.n, vi ki f.B.s, .int .u8 f.B.z, vi ki f.B.v, .string f.B.t] 32))) := (Below.refl _ _).alloc (Nat.le_refl _) _
 have X0 : Hid (Bx (w.alloc (.cells #[.bool f.h, vi ki f.fr, vi ki f.off, vi ki f.A.m, vi ki f.A.k, vi ki f.A.d, vi ki f.A.n, vi ki f.A.s, .int .u8 f.A.z, vi ki f.A.v, .string f.A.t, vi ki f.B.m, vi ki f.B.k, vi ki f.B.d, vi ki f.B.n, vi ki f.B.s, .int .u8 f.B.z, vi ki f.B.v, .string f.B.t] 32)) w.heap.size [.bool f.h, vi ki f.fr, vi ki f.off, vi ki f.A.m, vi ki f.A.k, vi ki f.A.d, vi ki f.A.n, vi ki f.A.s, .int .u8 f.A.z, vi ki f.A.v, .string f.A.t, vi ki f.B.m, vi ki f.B.k, vi ki f.B.d, vi ki f.B.n, vi ki f.B.s, .int .u8 f.B.z, vi ki f.B.v, .string f.B.t]) := Bx.new w [.bool f.h, vi ki f.fr, vi ki f.off, vi ki f.A.m, vi ki f.A.k, vi ki f.A.d, vi ki f.A.n, vi ki f.A.s, .int .u8 f.A.z, vi ki f.A.v, .string f.A.t, vi ki f.B.m, vi ki f.B.k, vi ki f.B.d, vi ki f.B.n, vi ki f.B.s, .int .u8 f.B.z, vi ki f.B.v, .string f.B.t] _
 go_enter Tryz.func136, Tryz.ntmps136
 go_wp2_with (first | (refine wpList_load_mid rfl 32 _ rfl w.heap.size 0 rfl [.bool f.h, vi ki f.fr, vi ki f.off, vi ki f.A.m, vi ki f.A.k, vi ki f.A.d, vi ki f.A.n, vi ki f.A.s, .int .u8 f.A.z, vi ki f.A.v, .string f.A.t, vi ki f.B.m, vi ki f.B.k, vi ki f.B.d, vi ki f.B.n, vi ki f.B.s, .int .u8 f.B.z, vi ki f.B.v, .string f.B.t] _ X0.out.all Tryz.underlying32 rfl (by kernel_rfl) ?_) | fail)
 refine (RC.out _).mono ?_
 rintro e w1 ⟨rfl, hb⟩
 have GB1 : Hid (Below w.heap.size w w1) := B0.out.trans (hb.mono B0.out.size)
 have G1_0 : Hid (Bx w1 w.heap.size [.bool f.h, vi ki f.fr, vi ki f.off, vi ki f.A.m, vi ki f.A.k, vi ki f.A.d, vi ki f.A.n, vi ki f.A.s, .int .u8 f.A.z, vi ki f.A.v, .string f.A.t, vi ki f.B.m, vi ki f.B.k, vi ki f.B.d, vi ki f.B.n, vi ki f.B.s, .int .u8 f.B.z, vi ki f.B.v, .string f.B.t]) := X0.out.below hb
 have c2 := G1_0.out.c 2 rfl
 clear hb B0 X0 RC
 go_wp2_with (first | (refine wpList_load_mid rfl 30 _ rfl w.heap.size 3 rfl [vi ki f.A.m, vi ki f.A.k, vi ki f.A.d, vi ki f.A.n, vi ki f.A.s, .int .u8 f.A.z, vi ki f.A.v, .string f.A.t] _ (G1_0.out.rng [.bool f.h, vi ki f.fr, vi ki f.off] [vi ki f.A.m, vi ki f.A.k, vi ki f.A.d, vi ki f.A.n, vi ki f.A.s, .int .u8 f.A.z, vi ki f.A.v, .string f.A.t] [vi ki f.B.m, vi ki f.B.k, vi ki f.B.d, vi ki f.B.n, vi ki f.B.s, .int .u8 f.B.z, vi ki f.B.v, .string f.B.t] rfl) Tryz.underlying30 rfl (by kernel_rfl) ?_) | (refine wpList_load_mid rfl 30 _ rfl w.heap.size 11 rfl [vi ki f.B.m, vi ki f.B.k, vi ki f.B.d, vi ki f.B.n, vi ki f.B.s, .int .u8 f.B.z, vi ki f.B.v, .string f.B.t] _ (G1_0.out.rng [.bool f.h, vi ki f.fr, vi ki f.off, vi ki f.A.m, vi ki f.A.k, vi ki f.A.d, vi ki f.A.n, vi ki f.A.s, .int .u8 f.A.z, vi ki f.A.v, .string f.A.t] [vi ki f.B.m, vi ki f.B.k, vi ki f.B.d, vi ki f.B.n, vi ki f.B.s, .int .u8 f.B.z, vi ki f.B.v, .string f.B.t] [] rfl) Tryz.underlying30 rfl (by kernel_rfl) ?_) | fail)
 refine (SA.out _ (bel_lens GB1.out hL0.out) (hT0.out.below GB1.out)).mono ?_
 rintro e w2 ⟨rfl, hb⟩
 have Z2_0 : Hid (Bx (w2.alloc (.cells #[vi ki 0, vi ki 0, .bool false, .string ⟨#[]⟩] 23)) w.heap.size [.bool f.h, vi ki f.fr, vi ki f.off, vi ki f.A.m, vi ki f.A.k, vi ki f.A.d, vi ki f.A.n, vi ki f.A.s, .int .u8 f.A.z, vi ki f.A.v, .string f.A.t, vi ki f.B.m, vi ki f.B.k, vi ki f.B.d, vi ki f.B.n, vi ki f.B.s, .int .u8 f.B.z, vi ki f.B.v, .string f.B.t]) := (G1_0.out.below hb).alloc _
 have Z2_0l : Hid (w.heap.size < w2.heap.size) := (G1_0.out.below hb).1
 have ZN2 : Hid (Bx (w2.alloc (.cells #[vi ki 0, vi ki 0, .bool false, .string ⟨#[]⟩] 23)) w2.heap.size z4) := Bx.new w2 z4 _
 have ZL2 : Hid (w.heap.size ≤ w2.heap.size) := (GB1.out.trans (hb.mono GB1.out.size)).size
 have ZB2 : Hid (Below w.heap.size w (w2.alloc (.cells #[vi ki 0, vi ki 0, .bool false, .string ⟨#[]⟩] 23))) := (GB1.out.trans (hb.mono GB1.out.size)).alloc ZL2.out _
 clear hb SA G1_0 GB1 c2
 go_wp2_with (first | (refine wpList_store_mid rfl 23 _ _ rfl w2.heap.size 0 #[vi ki p.t, vi ki p.o, .bool p.d, .string p.a] rfl rfl ZN2.out.there (by kernel_rfl) (tL_one p) ?_; refine gen_list (fun V => Bx V w.heap.size [.bool f.h, vi ki f.fr, vi ki f.off, vi ki f.A.m, vi ki f.A.k, vi ki f.A.d, vi ki f.A.n, vi ki f.A.s, .int .u8 f.A.z, vi ki f.A.v, .string f.A.t, vi ki f.B.m, vi ki f.B.k, vi ki f.B.d, vi ki f.B.n, vi ki f.B.s, .int .u8 f.B.z, vi ki f.B.v, .string f.B.t] ∧ Bx V w2.heap.size (tL p) ∧ Below w.heap.size w V) ⟨Z2_0.out.setOther (by have := Z2_0l.out; omega) (tL p), ZN2.out.setAll (tL p) rfl, below_setCells (by have := ZL2.out; omega) _ _ _ ZB2.out⟩ ?_; clear Z2_0 Z2_0l ZN2 ZB2; rintro V2 ⟨e2_0, eN2, eB2⟩; have G2_0 : Hid (Bx V2 w.heap.size [.bool f.h, vi ki f.fr, vi ki f.off, vi ki f.A.m, vi ki f.A.k, vi ki f.A.d, vi ki f.A.n, vi ki f.A.s, .int .u8 f.A.z, vi ki f.A.v, .string f.A.t, vi ki f.B.m, vi ki f.B.k, vi ki f.B.d, vi ki f.B.n, vi ki f.B.s, .int .u8 f.B.z, vi ki f.B.v, .string f.B.t]) := e2_0; have G2_1 : Hid (Bx V2 w2.heap.size (tL p)) := eN2; have GB2 : Hid (Below w.heap.size w V2) := eB2; clear e2_0 eN2 eB2; have c2 := G2_0.out.c 2 rfl) | (refine wpList_load_mid rfl 30 _ rfl w.heap.size 3 rfl [vi ki f.A.m, vi ki f.A.k, vi ki f.A.d, vi ki f.A.n, vi ki f.A.s, .int .u8 f.A.z, vi ki f.A.v, .string f.A.t] _ (G2_0.out.rng [.bool f.h, vi ki f.fr, vi ki f.off] [vi ki f.A.m, vi ki f.A.k, vi ki f.A.d, vi ki f.A.n, vi ki f.A.s, .int .u8 f.A.z, vi ki f.A.v, .string f.A.t] [vi ki f.B.m, vi ki f.B.k, vi ki f.B.d, vi ki f.B.n, vi ki f.B.s, .int .u8 f.B.z, vi ki f.B.v, .string f.B.t] rfl) Tryz.underlying30 rfl (by kernel_rfl) ?_) | (refine wpList_load_mid rfl 30 _ rfl w.heap.size 11 rfl [vi ki f.B.m, vi ki f.B.k, vi ki f.B.d, vi ki f.B.n, vi ki f.B.s, .int .u8 f.B.z, vi ki f.B.v, .string f.B.t] _ (G2_0.out.rng [.bool f.h, vi ki f.fr, vi ki f.off, vi ki f.A.m, vi ki f.A.k, vi ki f.A.d, vi ki f.A.n, vi ki f.A.s, .int .u8 f.A.z, vi ki f.A.v, .string f.A.t] [vi ki f.B.m, vi ki f.B.k, vi ki f.B.d, vi ki f.B.n, vi ki f.B.s, .int .u8 f.B.z, vi ki f.B.v, .string f.B.t] [] rfl) Tryz.underlying30 rfl (by kernel_rfl) ?_) | fail)
 refine (SB.out _ (bel_lens GB2.out hL0.out) (hT0.out.below GB2.out)).mono ?_
 rintro e w3 ⟨rfl, hb⟩
 have Z3_0 : Hid (Bx (w3.alloc (.cells #[vi ki 0, vi ki 0, .bool false, .string ⟨#[]⟩] 23)) w.heap.size [.bool f.h, vi ki f.fr, vi ki f.off, vi ki f.A.m, vi ki f.A.k, vi ki f.A.d, vi ki f.A.n, vi ki f.A.s, .int .u8 f.A.z, vi ki f.A.v, .string f.A.t, vi ki f.B.m, vi ki f.B.k, vi ki f.B.d, vi ki f.B.n, vi ki f.B.s, .int .u8 f.B.z, vi ki f.B.v, .string f.B.t]) := (G2_0.out.below hb).alloc _
 have Z3_0l : Hid (w.heap.size < w3.heap.size) := (G2_0.out.below hb).1
 have Z3_1 : Hid (Bx (w3.alloc (.cells #[vi ki 0, vi ki 0, .bool false, .string ⟨#[]⟩] 23)) w2.heap.size (tL p)) := (G2_1.out.below hb).alloc _
 have Z3_1l : Hid (w2.heap.size < w3.heap.size) := (G2_1.out.below hb).1
 have ZN3 : Hid (Bx (w3.alloc (.cells #[vi ki 0, vi ki 0, .bool false, .string ⟨#[]⟩] 23)) w3.heap.size z4) := Bx.new w3 z4 _
 have ZL3 : Hid (w.heap.size ≤ w3.heap.size) := (GB2.out.trans (hb.mono GB2.out.size)).size
 have ZB3 : Hid (Below w.heap.size w (w3.alloc (.cells #[vi ki 0, vi ki 0, .bool false, .string ⟨#[]⟩] 23))) := (GB2.out.trans (hb.mono GB2.out.size)).alloc ZL3.out _
 clear hb SB G2_0 G2_1 GB2 c2
 go_wp2_with (first | (refine wpList_store_mid rfl 23 _ _ rfl w3.heap.size 0 #[vi ki q.t, vi ki q.o, .bool q.d, .string q.a] rfl rfl ZN3.out.there (by kernel_rfl) (tL_one q) ?_; refine gen_list (fun V => Bx V w.heap.size [.bool f.h, vi ki f.fr, vi ki f.off, vi ki f.A.m, vi ki f.A.k, vi ki f.A.d, vi ki f.A.n, vi ki f.A.s, .int .u8 f.A.z, vi ki f.A.v, .string f.A.t, vi ki f.B.m, vi ki f.B.k, vi ki f.B.d, vi ki f.B.n, vi ki f.B.s, .int .u8 f.B.z, vi ki f.B.v, .string f.B.t] ∧ Bx V w2.heap.size (tL p) ∧ Bx V w3.heap.size (tL q) ∧ Below w.heap.size w V) ⟨Z3_0.out.setOther (by have := Z3_0l.out; omega) (tL q), Z3_1.out.setOther (by have := Z3_1l.out; omega) (tL q), ZN3.out.setAll (tL q) rfl, below_setCells (by have := ZL3.out; omega) _ _ _ ZB3.out⟩ ?_; clear Z3_0 Z3_0l Z3_1 Z3_1l ZN3 ZB3; rintro V3 ⟨e3_0, e3_1, eN3, eB3⟩; have G3_0 : Hid (Bx V3 w.heap.size [.bool f.h, vi ki f.fr, vi ki f.off, vi ki f.A.m, vi ki f.A.k, vi ki f.A.d, vi ki f.A.n, vi ki f.A.s, .int .u8 f.A.z, vi ki f.A.v, .string f.A.t, vi ki f.B.m, vi ki f.B.k, vi ki f.B.d, vi ki f.B.n, vi ki f.B.s, .int .u8 f.B.z, vi ki f.B.v, .string f.B.t]) := e3_0; have G3_1 : Hid (Bx V3 w2.heap.size (tL p)) := e3_1; have G3_2 : Hid (Bx V3 w3.heap.size (tL q)) := eN3; have GB3 : Hid (Below w.heap.size w V3) := eB3; clear e3_0 e3_1 eN3 eB3; have c3 := G3_0.out.c 3 rfl; have c11 := G3_0.out.c 11 rfl; have p0 := G3_1.out.c 0 rfl; have q0 := G3_2.out.c 0 rfl; have p1 := G3_1.out.c 1 rfl; have q1 := G3_2.out.c 1 rfl; have p2 := G3_1.out.c 2 rfl; have q2 := G3_2.out.c 2 rfl; have p3 := G3_1.out.c 3 rfl; have q3 := G3_2.out.c 3 rfl) | fail)
 go_ret2
 exact ⟨_, rfl, Bx.new _ [vi ki q.t, vi ki q.o, .bool q.d, .string q.a, vi ki p.t, vi ki p.o, .bool p.d, .string p.a] _, GB3.out.alloc GB3.out.size _, ⟨_, _, heap_alloc_new _ _⟩⟩
theorem ryear_new (f : Ft) (y : Int) (hf : okF f = true) (hy : dyY y) (w : World) (hL : Cvl.Lens w) (hT : Clk.Tab w) :
  Calls Tryz.prog 136 #[.agg #[.bool f.h, vi ki f.fr, vi ki f.off, vi ki f.A.m, vi ki f.A.k, vi ki f.A.d, vi ki f.A.n, vi ki f.A.s, .int .u8 f.A.z, vi ki f.A.v, .string f.A.t, vi ki f.B.m, vi ki f.B.k, vi ki f.B.d, vi ki f.B.n, vi ki f.B.s, .int .u8 f.B.z, vi ki f.B.v, .string f.B.t], vi ki y] w fun e w' => ∃ g, e = zr (.tuple #[.slice (some ⟨g, 0, none⟩) 2 2, vi ki 0]) ∧ Bx w' g (tL (sh1 f y) ++ tL (sh2 f y)) ∧ Below w.heap.size w w' ∧ (∃ cur fz, w'.heap[g]? = some (.cells cur 23 fz)) := by
 have L := lh_of hf
 have e := sh_is L hy
 obtain ⟨o1, o2, hA, hB, _, _⟩ := okF_of hf
 have RC : ∀ w : World, Calls Tryz.prog 151 #[.agg #[.bool f.h, vi ki f.fr, vi ki f.off, vi ki f.A.m, vi ki f.A.k, vi ki f.A.d, vi ki f.A.n, vi ki f.A.s, .int .u8 f.A.z, vi ki f.A.v, .string f.A.t, vi ki f.B.m, vi ki f.B.k, vi ki f.B.d, vi ki f.B.n, vi ki f.B.s, .int .u8 f.B.z, vi ki f.B.v, .string f.B.t]] w fun e w' => e = zr (.bool true) ∧ Below w.heap.size w w' := fun w => by
  have R := rcan_any f w
  rw [hf] at R
  exact R
 have h12 : ¬ y ≤ -4718 ∧ ¬ 294282 ≤ y := by unfold dyY at hy; omega
 by_cases q : f.A.m < f.B.m
 ·have e1 : lo f = f.A := if_pos q
  have e2 : hi f = f.B := if_pos q
  rw [e1, e2] at e
  rw [e.1, e.2]
  exact ryear_ab f y _ _ h12.1 h12.2 q RC (fun w _ _ => rshift_any f.A f.B f.off y hA hB o1 o2 hy w) (fun w _ _ => rshift_any f.B f.A f.off y hB hA o1 o2 hy w) w hL hT
 ·have e1 : lo f = f.B := if_neg q
  have e2 : hi f = f.A := if_neg q
  rw [e1, e2] at e
  rw [e.1, e.2]
  exact ryear_ba f y _ _ h12.1 h12.2 q RC (fun w _ _ => rshift_any f.A f.B f.off y hA hB o1 o2 hy w) (fun w _ _ => rshift_any f.B f.A f.off y hB hA o1 o2 hy w) w hL hT
theorem ryear_ok (f : Ft) (y : Int) (hf : okF f = true) (hy : dyY y) (w : World) (hL : Cvl.Lens w) (hT : Clk.Tab w) :
  Calls Tryz.prog 136 #[.agg #[.bool f.h, vi ki f.fr, vi ki f.off, vi ki f.A.m, vi ki f.A.k, vi ki f.A.d, vi ki f.A.n, vi ki f.A.s, .int .u8 f.A.z, vi ki f.A.v, .string f.A.t, vi ki f.B.m, vi ki f.B.k, vi ki f.B.d, vi ki f.B.n, vi ki f.B.s, .int .u8 f.B.z, vi ki f.B.v, .string f.B.t], vi ki y] w fun e w' => ∃ g, e = zr (.tuple #[.slice (some ⟨g, 0, none⟩) 2 2, vi ki 0]) ∧ Bx w' g (tL (sh1 f y) ++ tL (sh2 f y)) ∧ Below w.heap.size w w' := by
 refine (ryear_new f y hf hy w hL hT).mono ?_
 rintro e w' ⟨g, h1, h2, h3, _⟩
 exact ⟨g, h1, h2, h3⟩
end Go.Proofs.YtklehbmghjcmaaaGreatDoor.Fn
