import Derived.Test.YtklehbmghjcmaaaGreatDoorSz
import Derived.Test.YtklehbmghjcmaaaGreatDoorS17
import Derived.Lib.SmallJoins
import Derived.Deep.Strs
import Derived.OpenShut
import Derived.ProofKit
open Go.Value renaming int → vi
open Go.IntKind renaming i64 → ki
open List renaming setIfInBounds_toArray → zb, set_cons_zero → zc, set_cons_succ → zd
open Go.Act renaming put → za
open Go.Ending renaming returned → zr
set_option maxRecDepth 100000
set_option maxHeartbeats 16000000
set_option linter.unusedVariables false
namespace Go.Proofs.YtklehbmghjcmaaaGreatDoor.Fn
open Go.RowKit
theorem results_cell_t {P : Program} {fn : Func} {p q : Tmp} {t1 : TypeId} (h : fn.results = #[.cell p t1, .tmp q]) (tmps : Array Value) (w : World) (a : Addr) (u v : Value) (hp : tmps[p]?.getD undef = .pointer (some a)) (hq : tmps[q]?.getD undef = v)
  (h1 : (loadVar t1 a).run P w = .ok u w) : (results fn tmps).run P w = .ok (.tuple #[u, v]) w := by
 simp [results, h, hp, hq, asAddr, h1]
theorem z4_one : z4.toArray.all (·.oneCell') = true := all_oneCell_toArray (by intro v hv; simp [z4] at hv; rcases hv with rfl | rfl | rfl | rfl <;> rfl)
theorem around_arg (f : Ft) (t : Int) (hf : okF f = false) (w : World) (hL0 : Hid (Cvl.Lens w)) (hT0 : Hid (Clk.Tab w)) :
  Calls Tryz.prog 168 #[.agg #[.bool f.h, vi ki f.fr, vi ki f.off, vi ki f.A.m, vi ki f.A.k, vi ki f.A.d, vi ki f.A.n, vi ki f.A.s, .int .u8 f.A.z, vi ki f.A.v, .string f.A.t, vi ki f.B.m, vi ki f.B.k, vi ki f.B.d, vi ki f.B.n, vi ki f.B.s, .int .u8 f.B.z, vi ki f.B.v, .string f.B.t], vi ki t] w fun e w' => e = zr (.tuple #[.agg z4.toArray, .agg z4.toArray, vi ki 1]) ∧ Below w.heap.size w w' := by
 have HB : Hid (Below w.heap.size w (((((w.alloc (.cells #[.bool f.h, vi ki f.fr, vi ki f.off, vi ki f.A.m, vi ki f.A.k, vi ki f.A.d, vi ki f.A.n, vi ki f.A.s, .int .u8 f.A.z, vi ki f.A.v, .string f.A.t, vi ki f.B.m, vi ki f.B.k, vi ki f.B.d, vi ki f.B.n, vi ki f.B.s, .int .u8 f.B.z, vi ki f.B.v, .string f.B.t] 42)).alloc (.cells #[vi ki t] 2)).alloc (.cells #[vi ki 0, vi ki 0, .bool false, .string ⟨#[]⟩] 23)).alloc (.cells #[vi ki 0, vi ki 0, .bool false, .string ⟨#[]⟩] 23)).alloc (.cells #[vi ki 0] 46))) := ((((((Below.refl _ _).alloc (by simp <;> omega) _).alloc (by simp <;> omega) _).alloc (by simp <;> omega) _).alloc (by simp <;> omega) _).alloc (by simp <;> omega) _)
 have X0 : Hid (Bx (((((w.alloc (.cells #[.bool f.h, vi ki f.fr, vi ki f.off, vi ki f.A.m, vi ki f.A.k, vi ki f.A.d, vi ki f.A.n, vi ki f.A.s, .int .u8 f.A.z, vi ki f.A.v, .string f.A.t, vi ki f.B.m, vi ki f.B.k, vi ki f.B.d, vi ki f.B.n, vi ki f.B.s, .int .u8 f.B.z, vi ki f.B.v, .string f.B.t] 42)).alloc (.cells #[vi ki t] 2)).alloc (.cells #[vi ki 0, vi ki 0, .bool false, .string ⟨#[]⟩] 23)).alloc (.cells #[vi ki 0, vi ki 0, .bool false, .string ⟨#[]⟩] 23)).alloc (.cells #[vi ki 0] 46)) (w.heap.size) (fL f)) := (((((Bx.newAt w (fL f) _ _ (by simp)).alloc _).alloc _).alloc _).alloc _)
 have X1 : Hid (Bx (((((w.alloc (.cells #[.bool f.h, vi ki f.fr, vi ki f.off, vi ki f.A.m, vi ki f.A.k, vi ki f.A.d, vi ki f.A.n, vi ki f.A.s, .int .u8 f.A.z, vi ki f.A.v, .string f.A.t, vi ki f.B.m, vi ki f.B.k, vi ki f.B.d, vi ki f.B.n, vi ki f.B.s, .int .u8 f.B.z, vi ki f.B.v, .string f.B.t] 42)).alloc (.cells #[vi ki t] 2)).alloc (.cells #[vi ki 0, vi ki 0, .bool false, .string ⟨#[]⟩] 23)).alloc (.cells #[vi ki 0, vi ki 0, .bool false, .string ⟨#[]⟩] 23)).alloc (.cells #[vi ki 0] 46)) (w.heap.size + 1) ([vi ki t])) := ((((Bx.newAt (w.alloc (.cells #[.bool f.h, vi ki f.fr, vi ki f.off, vi ki f.A.m, vi ki f.A.k, vi ki f.A.d, vi ki f.A.n, vi ki f.A.s, .int .u8 f.A.z, vi ki f.A.v, .string f.A.t, vi ki f.B.m, vi ki f.B.k, vi ki f.B.d, vi ki f.B.n, vi ki f.B.s, .int .u8 f.B.z, vi ki f.B.v, .string f.B.t] 42)) ([vi ki t]) _ _ (by simp)).alloc _).alloc _).alloc _)
 have X2 : Hid (Bx (((((w.alloc (.cells #[.bool f.h, vi ki f.fr, vi ki f.off, vi ki f.A.m, vi ki f.A.k, vi ki f.A.d, vi ki f.A.n, vi ki f.A.s, .int .u8 f.A.z, vi ki f.A.v, .string f.A.t, vi ki f.B.m, vi ki f.B.k, vi ki f.B.d, vi ki f.B.n, vi ki f.B.s, .int .u8 f.B.z, vi ki f.B.v, .string f.B.t] 42)).alloc (.cells #[vi ki t] 2)).alloc (.cells #[vi ki 0, vi ki 0, .bool false, .string ⟨#[]⟩] 23)).alloc (.cells #[vi ki 0, vi ki 0, .bool false, .string ⟨#[]⟩] 23)).alloc (.cells #[vi ki 0] 46)) (w.heap.size + 2) (z4)) := (((Bx.newAt ((w.alloc (.cells #[.bool f.h, vi ki f.fr, vi ki f.off, vi ki f.A.m, vi ki f.A.k, vi ki f.A.d, vi ki f.A.n, vi ki f.A.s, .int .u8 f.A.z, vi ki f.A.v, .string f.A.t, vi ki f.B.m, vi ki f.B.k, vi ki f.B.d, vi ki f.B.n, vi ki f.B.s, .int .u8 f.B.z, vi ki f.B.v, .string f.B.t] 42)).alloc (.cells #[vi ki t] 2)) (z4) _ _ (by simp)).alloc _).alloc _)
 have X3 : Hid (Bx (((((w.alloc (.cells #[.bool f.h, vi ki f.fr, vi ki f.off, vi ki f.A.m, vi ki f.A.k, vi ki f.A.d, vi ki f.A.n, vi ki f.A.s, .int .u8 f.A.z, vi ki f.A.v, .string f.A.t, vi ki f.B.m, vi ki f.B.k, vi ki f.B.d, vi ki f.B.n, vi ki f.B.s, .int .u8 f.B.z, vi ki f.B.v, .string f.B.t] 42)).alloc (.cells #[vi ki t] 2)).alloc (.cells #[vi ki 0, vi ki 0, .bool false, .string ⟨#[]⟩] 23)).alloc (.cells #[vi ki 0, vi ki 0, .bool false, .string ⟨#[]⟩] 23)).alloc (.cells #[vi ki 0] 46)) (w.heap.size + 3) (z4)) := ((Bx.newAt (((w.alloc (.cells #[.bool f.h, vi ki f.fr, vi ki f.off, vi ki f.A.m, vi ki f.A.k, vi ki f.A.d, vi ki f.A.n, vi ki f.A.s, .int .u8 f.A.z, vi ki f.A.v, .string f.A.t, vi ki f.B.m, vi ki f.B.k, vi ki f.B.d, vi ki f.B.n, vi ki f.B.s, .int .u8 f.B.z, vi ki f.B.v, .string f.B.t] 42)).alloc (.cells #[vi ki t] 2)).alloc (.cells #[vi ki 0, vi ki 0, .bool false, .string ⟨#[]⟩] 23)) (z4) _ _ (by simp)).alloc _)
 have X4 : Hid (Bx (((((w.alloc (.cells #[.bool f.h, vi ki f.fr, vi ki f.off, vi ki f.A.m, vi ki f.A.k, vi ki f.A.d, vi ki f.A.n, vi ki f.A.s, .int .u8 f.A.z, vi ki f.A.v, .string f.A.t, vi ki f.B.m, vi ki f.B.k, vi ki f.B.d, vi ki f.B.n, vi ki f.B.s, .int .u8 f.B.z, vi ki f.B.v, .string f.B.t] 42)).alloc (.cells #[vi ki t] 2)).alloc (.cells #[vi ki 0, vi ki 0, .bool false, .string ⟨#[]⟩] 23)).alloc (.cells #[vi ki 0, vi ki 0, .bool false, .string ⟨#[]⟩] 23)).alloc (.cells #[vi ki 0] 46)) (w.heap.size + 4) ([vi ki 0])) := (Bx.newAt ((((w.alloc (.cells #[.bool f.h, vi ki f.fr, vi ki f.off, vi ki f.A.m, vi ki f.A.k, vi ki f.A.d, vi ki f.A.n, vi ki f.A.s, .int .u8 f.A.z, vi ki f.A.v, .string f.A.t, vi ki f.B.m, vi ki f.B.k, vi ki f.B.d, vi ki f.B.n, vi ki f.B.s, .int .u8 f.B.z, vi ki f.B.v, .string f.B.t] 42)).alloc (.cells #[vi ki t] 2)).alloc (.cells #[vi ki 0, vi ki 0, .bool false, .string ⟨#[]⟩] 23)).alloc (.cells #[vi ki 0, vi ki 0, .bool false, .string ⟨#[]⟩] 23)) ([vi ki 0]) _ _ (by simp))
 have L1 : Hid (Cvl.Lens (((((w.alloc (.cells #[.bool f.h, vi ki f.fr, vi ki f.off, vi ki f.A.m, vi ki f.A.k, vi ki f.A.d, vi ki f.A.n, vi ki f.A.s, .int .u8 f.A.z, vi ki f.A.v, .string f.A.t, vi ki f.B.m, vi ki f.B.k, vi ki f.B.d, vi ki f.B.n, vi ki f.B.s, .int .u8 f.B.z, vi ki f.B.v, .string f.B.t] 42)).alloc (.cells #[vi ki t] 2)).alloc (.cells #[vi ki 0, vi ki 0, .bool false, .string ⟨#[]⟩] 23)).alloc (.cells #[vi ki 0, vi ki 0, .bool false, .string ⟨#[]⟩] 23)).alloc (.cells #[vi ki 0] 46))) := Lens_below hL0.out HB.out (Lens_lt hL0.out)
 have T1 : Hid (Clk.Tab (((((w.alloc (.cells #[.bool f.h, vi ki f.fr, vi ki f.off, vi ki f.A.m, vi ki f.A.k, vi ki f.A.d, vi ki f.A.n, vi ki f.A.s, .int .u8 f.A.z, vi ki f.A.v, .string f.A.t, vi ki f.B.m, vi ki f.B.k, vi ki f.B.d, vi ki f.B.n, vi ki f.B.s, .int .u8 f.B.z, vi ki f.B.v, .string f.B.t] 42)).alloc (.cells #[vi ki t] 2)).alloc (.cells #[vi ki 0, vi ki 0, .bool false, .string ⟨#[]⟩] 23)).alloc (.cells #[vi ki 0, vi ki 0, .bool false, .string ⟨#[]⟩] 23)).alloc (.cells #[vi ki 0] 46))) := hT0.out.below HB.out
 have CA : Hid (Calls Tryz.prog 199 #[.agg #[.bool f.h, vi ki f.fr, vi ki f.off, vi ki f.A.m, vi ki f.A.k, vi ki f.A.d, vi ki f.A.n, vi ki f.A.s, .int .u8 f.A.z, vi ki f.A.v, .string f.A.t, vi ki f.B.m, vi ki f.B.k, vi ki f.B.d, vi ki f.B.n, vi ki f.B.s, .int .u8 f.B.z, vi ki f.B.v, .string f.B.t]] (((((w.alloc (.cells #[.bool f.h, vi ki f.fr, vi ki f.off, vi ki f.A.m, vi ki f.A.k, vi ki f.A.d, vi ki f.A.n, vi ki f.A.s, .int .u8 f.A.z, vi ki f.A.v, .string f.A.t, vi ki f.B.m, vi ki f.B.k, vi ki f.B.d, vi ki f.B.n, vi ki f.B.s, .int .u8 f.B.z, vi ki f.B.v, .string f.B.t] 42)).alloc (.cells #[vi ki t] 2)).alloc (.cells #[vi ki 0, vi ki 0, .bool false, .string ⟨#[]⟩] 23)).alloc (.cells #[vi ki 0, vi ki 0, .bool false, .string ⟨#[]⟩] 23)).alloc (.cells #[vi ki 0] 46)) fun e w' => e = zr (.bool false) ∧ Below (((((w.alloc (.cells #[.bool f.h, vi ki f.fr, vi ki f.off, vi ki f.A.m, vi ki f.A.k, vi ki f.A.d, vi ki f.A.n, vi ki f.A.s, .int .u8 f.A.z, vi ki f.A.v, .string f.A.t, vi ki f.B.m, vi ki f.B.k, vi ki f.B.d, vi ki f.B.n, vi ki f.B.s, .int .u8 f.B.z, vi ki f.B.v, .string f.B.t] 42)).alloc (.cells #[vi ki t] 2)).alloc (.cells #[vi ki 0, vi ki 0, .bool false, .string ⟨#[]⟩] 23)).alloc (.cells #[vi ki 0, vi ki 0, .bool false, .string ⟨#[]⟩] 23)).alloc (.cells #[vi ki 0] 46)).heap.size (((((w.alloc (.cells #[.bool f.h, vi ki f.fr, vi ki f.off, vi ki f.A.m, vi ki f.A.k, vi ki f.A.d, vi ki f.A.n, vi ki f.A.s, .int .u8 f.A.z, vi ki f.A.v, .string f.A.t, vi ki f.B.m, vi ki f.B.k, vi ki f.B.d, vi ki f.B.n, vi ki f.B.s, .int .u8 f.B.z, vi ki f.B.v, .string f.B.t] 42)).alloc (.cells #[vi ki t] 2)).alloc (.cells #[vi ki 0, vi ki 0, .bool false, .string ⟨#[]⟩] 23)).alloc (.cells #[vi ki 0, vi ki 0, .bool false, .string ⟨#[]⟩] 23)).alloc (.cells #[vi ki 0] 46)) w') := by
  have R := can_any f (((((w.alloc (.cells #[.bool f.h, vi ki f.fr, vi ki f.off, vi ki f.A.m, vi ki f.A.k, vi ki f.A.d, vi ki f.A.n, vi ki f.A.s, .int .u8 f.A.z, vi ki f.A.v, .string f.A.t, vi ki f.B.m, vi ki f.B.k, vi ki f.B.d, vi ki f.B.n, vi ki f.B.s, .int .u8 f.B.z, vi ki f.B.v, .string f.B.t] 42)).alloc (.cells #[vi ki t] 2)).alloc (.cells #[vi ki 0, vi ki 0, .bool false, .string ⟨#[]⟩] 23)).alloc (.cells #[vi ki 0, vi ki 0, .bool false, .string ⟨#[]⟩] 23)).alloc (.cells #[vi ki 0] 46)) L1.out T1.out
  rw [hf] at R
  exact R
 go_enter Tryz.func168, Tryz.ntmps168
 go_wp2_with (first | (refine wpList_load_mid rfl 42 _ rfl w.heap.size 0 rfl [.bool f.h, vi ki f.fr, vi ki f.off, vi ki f.A.m, vi ki f.A.k, vi ki f.A.d, vi ki f.A.n, vi ki f.A.s, .int .u8 f.A.z, vi ki f.A.v, .string f.A.t, vi ki f.B.m, vi ki f.B.k, vi ki f.B.d, vi ki f.B.n, vi ki f.B.s, .int .u8 f.B.z, vi ki f.B.v, .string f.B.t] _ X0.out.all Tryz.underlying42 rfl (by kernel_rfl) ?_) | fail)
 refine CA.out.mono ?_
 rintro e w1 ⟨rfl, hb⟩
 have HB1 : Hid (Below w.heap.size w w1) := HB.out.trans (hb.mono HB.out.size)
 have Y1 := X1.out.below hb
 have Y2 := X2.out.below hb
 have Y3 := X3.out.below hb
 have Y4 := X4.out.below hb
 have L2 : Hid (Cvl.Lens w1) := bel_lens HB1.out hL0.out
 clear hb HB X0 X1 X2 X3 X4 CA L1 T1
 go_wp2_with (first | (refine wpList_store_mid rfl 23 _ _ rfl (w.heap.size + 1 + 1) 0 z4.toArray rfl rfl Y2.there (by kernel_rfl) z4_one ?_; refine gen_list (fun V => Bx V (w.heap.size + 1 + 1) z4 ∧ Bx V (w.heap.size + 1 + 1 + 1) z4 ∧ Bx V (w.heap.size + 1 + 1 + 1 + 1) [vi ki 0] ∧ Below w.heap.size w V) ⟨Y2.setAll z4 rfl, Y3.setOther (by omega) z4, Y4.setOther (by omega) z4, below_setCells (by omega) _ _ _ HB1.out⟩ ?_; clear Y2 Y3 Y4 HB1; rintro V ⟨U2, U3, U4, UB⟩) | (refine wpList_store_mid rfl 23 _ _ rfl (w.heap.size + 1 + 1 + 1) 0 z4.toArray rfl rfl U3.there (by kernel_rfl) z4_one ?_; refine gen_list (fun V => Bx V (w.heap.size + 1 + 1) z4 ∧ Bx V (w.heap.size + 1 + 1 + 1) z4 ∧ Bx V (w.heap.size + 1 + 1 + 1 + 1) [vi ki 0] ∧ Below w.heap.size w V) ⟨U2.setOther (by omega) z4, U3.setAll z4 rfl, U4.setOther (by omega) z4, below_setCells (by omega) _ _ _ UB⟩ ?_; clear U2 U3 U4 UB; rintro V1 ⟨P2, P3, P4, PB⟩; have c4 := P4.c 0 rfl; have f4 := P4.f 0 rfl) | fail)
 have Q2 := P2.setOther (b := w.heap.size + 1 + 1 + 1 + 1) (by omega) [vi ki 1]
 have Q3 := P3.setOther (b := w.heap.size + 1 + 1 + 1 + 1) (by omega) [vi ki 1]
 have Q4 := P4.setAll [vi ki 1] rfl
 exact bodyPost_ret (v := .tuple #[.agg z4.toArray, .agg z4.toArray, vi ki 1]) (results_cell3 rfl _ _ _ _ _ _ _ _ rfl rfl rfl (run_loadVar_mid _ _ _ _ _ _ Q2.all Tryz.underlying23 rfl (by kernel_rfl)) (run_loadVar_mid _ _ _ _ _ _ Q3.all Tryz.underlying23 rfl (by kernel_rfl)) (run_loadVar1 (Q4.c 0 rfl) Tryz.underlying46)) rfl ⟨rfl, below_setCells (b := w.heap.size + 1 + 1 + 1 + 1) (by omega) [vi ki 1] V1 0 PB⟩
theorem around_range (f : Ft) (t : Int) (y : Int) (hf : okF f = true) (hy : YAt t y) (t1 : -9223372036854775808 ≤ t) (t2 : t ≤ 9223372036854775807) (h : y < -4714 ∨ (¬ y < -4714 ∧ 294278 < y)) (w : World) (hL0 : Hid (Cvl.Lens w)) (hT0 : Hid (Clk.Tab w)) :
  Calls Tryz.prog 168 #[.agg #[.bool f.h, vi ki f.fr, vi ki f.off, vi ki f.A.m, vi ki f.A.k, vi ki f.A.d, vi ki f.A.n, vi ki f.A.s, .int .u8 f.A.z, vi ki f.A.v, .string f.A.t, vi ki f.B.m, vi ki f.B.k, vi ki f.B.d, vi ki f.B.n, vi ki f.B.s, .int .u8 f.B.z, vi ki f.B.v, .string f.B.t], vi ki t] w fun e w' => e = zr (.tuple #[.agg z4.toArray, .agg z4.toArray, vi ki 10]) ∧ Below w.heap.size w w' := by
 have HB : Hid (Below w.heap.size w (((((w.alloc (.cells #[.bool f.h, vi ki f.fr, vi ki f.off, vi ki f.A.m, vi ki f.A.k, vi ki f.A.d, vi ki f.A.n, vi ki f.A.s, .int .u8 f.A.z, vi ki f.A.v, .string f.A.t, vi ki f.B.m, vi ki f.B.k, vi ki f.B.d, vi ki f.B.n, vi ki f.B.s, .int .u8 f.B.z, vi ki f.B.v, .string f.B.t] 42)).alloc (.cells #[vi ki t] 2)).alloc (.cells #[vi ki 0, vi ki 0, .bool false, .string ⟨#[]⟩] 23)).alloc (.cells #[vi ki 0, vi ki 0, .bool false, .string ⟨#[]⟩] 23)).alloc (.cells #[vi ki 0] 46))) := ((((((Below.refl _ _).alloc (by simp <;> omega) _).alloc (by simp <;> omega) _).alloc (by simp <;> omega) _).alloc (by simp <;> omega) _).alloc (by simp <;> omega) _)
 have X0 : Hid (Bx (((((w.alloc (.cells #[.bool f.h, vi ki f.fr, vi ki f.off, vi ki f.A.m, vi ki f.A.k, vi ki f.A.d, vi ki f.A.n, vi ki f.A.s, .int .u8 f.A.z, vi ki f.A.v, .string f.A.t, vi ki f.B.m, vi ki f.B.k, vi ki f.B.d, vi ki f.B.n, vi ki f.B.s, .int .u8 f.B.z, vi ki f.B.v, .string f.B.t] 42)).alloc (.cells #[vi ki t] 2)).alloc (.cells #[vi ki 0, vi ki 0, .bool false, .string ⟨#[]⟩] 23)).alloc (.cells #[vi ki 0, vi ki 0, .bool false, .string ⟨#[]⟩] 23)).alloc (.cells #[vi ki 0] 46)) (w.heap.size) (fL f)) := (((((Bx.newAt w (fL f) _ _ (by simp)).alloc _).alloc _).alloc _).alloc _)
 have X1 : Hid (Bx (((((w.alloc (.cells #[.bool f.h, vi ki f.fr, vi ki f.off, vi ki f.A.m, vi ki f.A.k, vi ki f.A.d, vi ki f.A.n, vi ki f.A.s, .int .u8 f.A.z, vi ki f.A.v, .string f.A.t, vi ki f.B.m, vi ki f.B.k, vi ki f.B.d, vi ki f.B.n, vi ki f.B.s, .int .u8 f.B.z, vi ki f.B.v, .string f.B.t] 42)).alloc (.cells #[vi ki t] 2)).alloc (.cells #[vi ki 0, vi ki 0, .bool false, .string ⟨#[]⟩] 23)).alloc (.cells #[vi ki 0, vi ki 0, .bool false, .string ⟨#[]⟩] 23)).alloc (.cells #[vi ki 0] 46)) (w.heap.size + 1) ([vi ki t])) := ((((Bx.newAt (w.alloc (.cells #[.bool f.h, vi ki f.fr, vi ki f.off, vi ki f.A.m, vi ki f.A.k, vi ki f.A.d, vi ki f.A.n, vi ki f.A.s, .int .u8 f.A.z, vi ki f.A.v, .string f.A.t, vi ki f.B.m, vi ki f.B.k, vi ki f.B.d, vi ki f.B.n, vi ki f.B.s, .int .u8 f.B.z, vi ki f.B.v, .string f.B.t] 42)) ([vi ki t]) _ _ (by simp)).alloc _).alloc _).alloc _)
 have X2 : Hid (Bx (((((w.alloc (.cells #[.bool f.h, vi ki f.fr, vi ki f.off, vi ki f.A.m, vi ki f.A.k, vi ki f.A.d, vi ki f.A.n, vi ki f.A.s, .int .u8 f.A.z, vi ki f.A.v, .string f.A.t, vi ki f.B.m, vi ki f.B.k, vi ki f.B.d, vi ki f.B.n, vi ki f.B.s, .int .u8 f.B.z, vi ki f.B.v, .string f.B.t] 42)).alloc (.cells #[vi ki t] 2)).alloc (.cells #[vi ki 0, vi ki 0, .bool false, .string ⟨#[]⟩] 23)).alloc (.cells #[vi ki 0, vi ki 0, .bool false, .string ⟨#[]⟩] 23)).alloc (.cells #[vi ki 0] 46)) (w.heap.size + 2) (z4)) := (((Bx.newAt ((w.alloc (.cells #[.bool f.h, vi ki f.fr, vi ki f.off, vi ki f.A.m, vi ki f.A.k, vi ki f.A.d, vi ki f.A.n, vi ki f.A.s, .int .u8 f.A.z, vi ki f.A.v, .string f.A.t, vi ki f.B.m, vi ki f.B.k, vi ki f.B.d, vi ki f.B.n, vi ki f.B.s, .int .u8 f.B.z, vi ki f.B.v, .string f.B.t] 42)).alloc (.cells #[vi ki t] 2)) (z4) _ _ (by simp)).alloc _).alloc _)
 have X3 : Hid (Bx (((((w.alloc (.cells #[.bool f.h, vi ki f.fr, vi ki f.off, vi ki f.A.m, vi ki f.A.k, vi ki f.A.d, vi ki f.A.n, vi ki f.A.s, .int .u8 f.A.z, vi ki f.A.v, .string f.A.t, vi ki f.B.m, vi ki f.B.k, vi ki f.B.d, vi ki f.B.n, vi ki f.B.s, .int .u8 f.B.z, vi ki f.B.v, .string f.B.t] 42)).alloc (.cells #[vi ki t] 2)).alloc (.cells #[vi ki 0, vi ki 0, .bool false, .string ⟨#[]⟩] 23)).alloc (.cells #[vi ki 0, vi ki 0, .bool false, .string ⟨#[]⟩] 23)).alloc (.cells #[vi ki 0] 46)) (w.heap.size + 3) (z4)) := ((Bx.newAt (((w.alloc (.cells #[.bool f.h, vi ki f.fr, vi ki f.off, vi ki f.A.m, vi ki f.A.k, vi ki f.A.d, vi ki f.A.n, vi ki f.A.s, .int .u8 f.A.z, vi ki f.A.v, .string f.A.t, vi ki f.B.m, vi ki f.B.k, vi ki f.B.d, vi ki f.B.n, vi ki f.B.s, .int .u8 f.B.z, vi ki f.B.v, .string f.B.t] 42)).alloc (.cells #[vi ki t] 2)).alloc (.cells #[vi ki 0, vi ki 0, .bool false, .string ⟨#[]⟩] 23)) (z4) _ _ (by simp)).alloc _)
 have X4 : Hid (Bx (((((w.alloc (.cells #[.bool f.h, vi ki f.fr, vi ki f.off, vi ki f.A.m, vi ki f.A.k, vi ki f.A.d, vi ki f.A.n, vi ki f.A.s, .int .u8 f.A.z, vi ki f.A.v, .string f.A.t, vi ki f.B.m, vi ki f.B.k, vi ki f.B.d, vi ki f.B.n, vi ki f.B.s, .int .u8 f.B.z, vi ki f.B.v, .string f.B.t] 42)).alloc (.cells #[vi ki t] 2)).alloc (.cells #[vi ki 0, vi ki 0, .bool false, .string ⟨#[]⟩] 23)).alloc (.cells #[vi ki 0, vi ki 0, .bool false, .string ⟨#[]⟩] 23)).alloc (.cells #[vi ki 0] 46)) (w.heap.size + 4) ([vi ki 0])) := (Bx.newAt ((((w.alloc (.cells #[.bool f.h, vi ki f.fr, vi ki f.off, vi ki f.A.m, vi ki f.A.k, vi ki f.A.d, vi ki f.A.n, vi ki f.A.s, .int .u8 f.A.z, vi ki f.A.v, .string f.A.t, vi ki f.B.m, vi ki f.B.k, vi ki f.B.d, vi ki f.B.n, vi ki f.B.s, .int .u8 f.B.z, vi ki f.B.v, .string f.B.t] 42)).alloc (.cells #[vi ki t] 2)).alloc (.cells #[vi ki 0, vi ki 0, .bool false, .string ⟨#[]⟩] 23)).alloc (.cells #[vi ki 0, vi ki 0, .bool false, .string ⟨#[]⟩] 23)) ([vi ki 0]) _ _ (by simp))
 have L1 : Hid (Cvl.Lens (((((w.alloc (.cells #[.bool f.h, vi ki f.fr, vi ki f.off, vi ki f.A.m, vi ki f.A.k, vi ki f.A.d, vi ki f.A.n, vi ki f.A.s, .int .u8 f.A.z, vi ki f.A.v, .string f.A.t, vi ki f.B.m, vi ki f.B.k, vi ki f.B.d, vi ki f.B.n, vi ki f.B.s, .int .u8 f.B.z, vi ki f.B.v, .string f.B.t] 42)).alloc (.cells #[vi ki t] 2)).alloc (.cells #[vi ki 0, vi ki 0, .bool false, .string ⟨#[]⟩] 23)).alloc (.cells #[vi ki 0, vi ki 0, .bool false, .string ⟨#[]⟩] 23)).alloc (.cells #[vi ki 0] 46))) := Lens_below hL0.out HB.out (Lens_lt hL0.out)
 have T1 : Hid (Clk.Tab (((((w.alloc (.cells #[.bool f.h, vi ki f.fr, vi ki f.off, vi ki f.A.m, vi ki f.A.k, vi ki f.A.d, vi ki f.A.n, vi ki f.A.s, .int .u8 f.A.z, vi ki f.A.v, .string f.A.t, vi ki f.B.m, vi ki f.B.k, vi ki f.B.d, vi ki f.B.n, vi ki f.B.s, .int .u8 f.B.z, vi ki f.B.v, .string f.B.t] 42)).alloc (.cells #[vi ki t] 2)).alloc (.cells #[vi ki 0, vi ki 0, .bool false, .string ⟨#[]⟩] 23)).alloc (.cells #[vi ki 0, vi ki 0, .bool false, .string ⟨#[]⟩] 23)).alloc (.cells #[vi ki 0] 46))) := hT0.out.below HB.out
 have CA : Hid (Calls Tryz.prog 199 #[.agg #[.bool f.h, vi ki f.fr, vi ki f.off, vi ki f.A.m, vi ki f.A.k, vi ki f.A.d, vi ki f.A.n, vi ki f.A.s, .int .u8 f.A.z, vi ki f.A.v, .string f.A.t, vi ki f.B.m, vi ki f.B.k, vi ki f.B.d, vi ki f.B.n, vi ki f.B.s, .int .u8 f.B.z, vi ki f.B.v, .string f.B.t]] (((((w.alloc (.cells #[.bool f.h, vi ki f.fr, vi ki f.off, vi ki f.A.m, vi ki f.A.k, vi ki f.A.d, vi ki f.A.n, vi ki f.A.s, .int .u8 f.A.z, vi ki f.A.v, .string f.A.t, vi ki f.B.m, vi ki f.B.k, vi ki f.B.d, vi ki f.B.n, vi ki f.B.s, .int .u8 f.B.z, vi ki f.B.v, .string f.B.t] 42)).alloc (.cells #[vi ki t] 2)).alloc (.cells #[vi ki 0, vi ki 0, .bool false, .string ⟨#[]⟩] 23)).alloc (.cells #[vi ki 0, vi ki 0, .bool false, .string ⟨#[]⟩] 23)).alloc (.cells #[vi ki 0] 46)) fun e w' => e = zr (.bool true) ∧ Below (((((w.alloc (.cells #[.bool f.h, vi ki f.fr, vi ki f.off, vi ki f.A.m, vi ki f.A.k, vi ki f.A.d, vi ki f.A.n, vi ki f.A.s, .int .u8 f.A.z, vi ki f.A.v, .string f.A.t, vi ki f.B.m, vi ki f.B.k, vi ki f.B.d, vi ki f.B.n, vi ki f.B.s, .int .u8 f.B.z, vi ki f.B.v, .string f.B.t] 42)).alloc (.cells #[vi ki t] 2)).alloc (.cells #[vi ki 0, vi ki 0, .bool false, .string ⟨#[]⟩] 23)).alloc (.cells #[vi ki 0, vi ki 0, .bool false, .string ⟨#[]⟩] 23)).alloc (.cells #[vi ki 0] 46)).heap.size (((((w.alloc (.cells #[.bool f.h, vi ki f.fr, vi ki f.off, vi ki f.A.m, vi ki f.A.k, vi ki f.A.d, vi ki f.A.n, vi ki f.A.s, .int .u8 f.A.z, vi ki f.A.v, .string f.A.t, vi ki f.B.m, vi ki f.B.k, vi ki f.B.d, vi ki f.B.n, vi ki f.B.s, .int .u8 f.B.z, vi ki f.B.v, .string f.B.t] 42)).alloc (.cells #[vi ki t] 2)).alloc (.cells #[vi ki 0, vi ki 0, .bool false, .string ⟨#[]⟩] 23)).alloc (.cells #[vi ki 0, vi ki 0, .bool false, .string ⟨#[]⟩] 23)).alloc (.cells #[vi ki 0] 46)) w') := by
  have R := can_any f (((((w.alloc (.cells #[.bool f.h, vi ki f.fr, vi ki f.off, vi ki f.A.m, vi ki f.A.k, vi ki f.A.d, vi ki f.A.n, vi ki f.A.s, .int .u8 f.A.z, vi ki f.A.v, .string f.A.t, vi ki f.B.m, vi ki f.B.k, vi ki f.B.d, vi ki f.B.n, vi ki f.B.s, .int .u8 f.B.z, vi ki f.B.v, .string f.B.t] 42)).alloc (.cells #[vi ki t] 2)).alloc (.cells #[vi ki 0, vi ki 0, .bool false, .string ⟨#[]⟩] 23)).alloc (.cells #[vi ki 0, vi ki 0, .bool false, .string ⟨#[]⟩] 23)).alloc (.cells #[vi ki 0] 46)) L1.out T1.out
  rw [hf] at R
  exact R
 go_enter Tryz.func168, Tryz.ntmps168
 go_wp2_with (first | (refine wpList_load_mid rfl 42 _ rfl w.heap.size 0 rfl [.bool f.h, vi ki f.fr, vi ki f.off, vi ki f.A.m, vi ki f.A.k, vi ki f.A.d, vi ki f.A.n, vi ki f.A.s, .int .u8 f.A.z, vi ki f.A.v, .string f.A.t, vi ki f.B.m, vi ki f.B.k, vi ki f.B.d, vi ki f.B.n, vi ki f.B.s, .int .u8 f.B.z, vi ki f.B.v, .string f.B.t] _ X0.out.all Tryz.underlying42 rfl (by kernel_rfl) ?_) | fail)
 refine CA.out.mono ?_
 rintro e w1 ⟨rfl, hb⟩
 have HB1 : Hid (Below w.heap.size w w1) := HB.out.trans (hb.mono HB.out.size)
 have Y1 := X1.out.below hb
 have Y2 := X2.out.below hb
 have Y3 := X3.out.below hb
 have Y4 := X4.out.below hb
 have L2 : Hid (Cvl.Lens w1) := bel_lens HB1.out hL0.out
 clear hb HB X0 X1 X2 X3 X4 CA L1 T1
 have ct := Y1.c 0 rfl
 go_wp2_with fail
 refine (yat_any t y hy t1 t2 _ L2.out).mono ?_
 rintro e w9 ⟨rfl, rfl⟩
 rcases h with h | ⟨h, h'⟩
 ·go_wp2_with (first | (refine wpList_store_mid rfl 23 _ _ rfl (w.heap.size + 1 + 1) 0 z4.toArray rfl rfl Y2.there (by kernel_rfl) z4_one ?_; refine gen_list (fun V => Bx V (w.heap.size + 1 + 1) z4 ∧ Bx V (w.heap.size + 1 + 1 + 1) z4 ∧ Bx V (w.heap.size + 1 + 1 + 1 + 1) [vi ki 0] ∧ Below w.heap.size w V) ⟨Y2.setAll z4 rfl, Y3.setOther (by omega) z4, Y4.setOther (by omega) z4, below_setCells (by omega) _ _ _ HB1.out⟩ ?_; clear Y2 Y3 Y4 HB1; rintro V ⟨U2, U3, U4, UB⟩) | (refine wpList_store_mid rfl 23 _ _ rfl (w.heap.size + 1 + 1 + 1) 0 z4.toArray rfl rfl U3.there (by kernel_rfl) z4_one ?_; refine gen_list (fun V => Bx V (w.heap.size + 1 + 1) z4 ∧ Bx V (w.heap.size + 1 + 1 + 1) z4 ∧ Bx V (w.heap.size + 1 + 1 + 1 + 1) [vi ki 0] ∧ Below w.heap.size w V) ⟨U2.setOther (by omega) z4, U3.setAll z4 rfl, U4.setOther (by omega) z4, below_setCells (by omega) _ _ _ UB⟩ ?_; clear U2 U3 U4 UB; rintro V1 ⟨P2, P3, P4, PB⟩; have c4 := P4.c 0 rfl; have f4 := P4.f 0 rfl) | fail)
  have Q2 := P2.setOther (b := w.heap.size + 1 + 1 + 1 + 1) (by omega) [vi ki 10]
  have Q3 := P3.setOther (b := w.heap.size + 1 + 1 + 1 + 1) (by omega) [vi ki 10]
  have Q4 := P4.setAll [vi ki 10] rfl
  exact bodyPost_ret (v := .tuple #[.agg z4.toArray, .agg z4.toArray, vi ki 10]) (results_cell3 rfl _ _ _ _ _ _ _ _ rfl rfl rfl (run_loadVar_mid _ _ _ _ _ _ Q2.all Tryz.underlying23 rfl (by kernel_rfl)) (run_loadVar_mid _ _ _ _ _ _ Q3.all Tryz.underlying23 rfl (by kernel_rfl)) (run_loadVar1 (Q4.c 0 rfl) Tryz.underlying46)) rfl ⟨rfl, below_setCells (b := w.heap.size + 1 + 1 + 1 + 1) (by omega) [vi ki 10] V1 0 PB⟩
 ·go_wp2_with (first | (refine wpList_store_mid rfl 23 _ _ rfl (w.heap.size + 1 + 1) 0 z4.toArray rfl rfl Y2.there (by kernel_rfl) z4_one ?_; refine gen_list (fun V => Bx V (w.heap.size + 1 + 1) z4 ∧ Bx V (w.heap.size + 1 + 1 + 1) z4 ∧ Bx V (w.heap.size + 1 + 1 + 1 + 1) [vi ki 0] ∧ Below w.heap.size w V) ⟨Y2.setAll z4 rfl, Y3.setOther (by omega) z4, Y4.setOther (by omega) z4, below_setCells (by omega) _ _ _ HB1.out⟩ ?_; clear Y2 Y3 Y4 HB1; rintro V ⟨U2, U3, U4, UB⟩) | (refine wpList_store_mid rfl 23 _ _ rfl (w.heap.size + 1 + 1 + 1) 0 z4.toArray rfl rfl U3.there (by kernel_rfl) z4_one ?_; refine gen_list (fun V => Bx V (w.heap.size + 1 + 1) z4 ∧ Bx V (w.heap.size + 1 + 1 + 1) z4 ∧ Bx V (w.heap.size + 1 + 1 + 1 + 1) [vi ki 0] ∧ Below w.heap.size w V) ⟨U2.setOther (by omega) z4, U3.setAll z4 rfl, U4.setOther (by omega) z4, below_setCells (by omega) _ _ _ UB⟩ ?_; clear U2 U3 U4 UB; rintro V1 ⟨P2, P3, P4, PB⟩; have c4 := P4.c 0 rfl; have f4 := P4.f 0 rfl) | fail)
  have Q2 := P2.setOther (b := w.heap.size + 1 + 1 + 1 + 1) (by omega) [vi ki 10]
  have Q3 := P3.setOther (b := w.heap.size + 1 + 1 + 1 + 1) (by omega) [vi ki 10]
  have Q4 := P4.setAll [vi ki 10] rfl
  exact bodyPost_ret (v := .tuple #[.agg z4.toArray, .agg z4.toArray, vi ki 10]) (results_cell3 rfl _ _ _ _ _ _ _ _ rfl rfl rfl (run_loadVar_mid _ _ _ _ _ _ Q2.all Tryz.underlying23 rfl (by kernel_rfl)) (run_loadVar_mid _ _ _ _ _ _ Q3.all Tryz.underlying23 rfl (by kernel_rfl)) (run_loadVar1 (Q4.c 0 rfl) Tryz.underlying46)) rfl ⟨rfl, below_setCells (b := w.heap.size + 1 + 1 + 1 + 1) (by omega) [vi ki 10] V1 0 PB⟩
theorem at_run (f : Ft) (t : Int) (p q : Tr) (er : Int)
  (AR : Hid (∀ w : World, Cvl.Lens w → Clk.Tab w → Calls Tryz.prog 168 #[.agg #[.bool f.h, vi ki f.fr, vi ki f.off, vi ki f.A.m, vi ki f.A.k, vi ki f.A.d, vi ki f.A.n, vi ki f.A.s, .int .u8 f.A.z, vi ki f.A.v, .string f.A.t, vi ki f.B.m, vi ki f.B.k, vi ki f.B.d, vi ki f.B.n, vi ki f.B.s, .int .u8 f.B.z, vi ki f.B.v, .string f.B.t], vi ki t] w fun e w' => e = zr (.tuple #[.agg #[vi ki p.t, vi ki p.o, .bool p.d, .string p.a], .agg #[vi ki q.t, vi ki q.o, .bool q.d, .string q.a], vi ki er]) ∧ Below w.heap.size w w'))
  (w : World) (hL0 : Hid (Cvl.Lens w)) (hT0 : Hid (Clk.Tab w)) :
  Calls Tryz.prog 125 #[.agg #[.bool f.h, vi ki f.fr, vi ki f.off, vi ki f.A.m, vi ki f.A.k, vi ki f.A.d, vi ki f.A.n, vi ki f.A.s, .int .u8 f.A.z, vi ki f.A.v, .string f.A.t, vi ki f.B.m, vi ki f.B.k, vi ki f.B.d, vi ki f.B.n, vi ki f.B.s, .int .u8 f.B.z, vi ki f.B.v, .string f.B.t], vi ki t] w fun e w' => e = zr (.tuple #[.agg #[vi ki p.t, vi ki p.o, .bool p.d, .string p.a], vi ki er]) ∧ Below w.heap.size w w' := by
 have HB : Hid (Below w.heap.size w ((w.alloc (.cells #[.bool f.h, vi ki f.fr, vi ki f.off, vi ki f.A.m, vi ki f.A.k, vi ki f.A.d, vi ki f.A.n, vi ki f.A.s, .int .u8 f.A.z, vi ki f.A.v, .string f.A.t, vi ki f.B.m, vi ki f.B.k, vi ki f.B.d, vi ki f.B.n, vi ki f.B.s, .int .u8 f.B.z, vi ki f.B.v, .string f.B.t] 42)).alloc (.cells #[vi ki 0, vi ki 0, .bool false, .string ⟨#[]⟩] 23))) := (((Below.refl _ _).alloc (by simp <;> omega) _).alloc (by simp <;> omega) _)
 have X0 : Hid (Bx ((w.alloc (.cells #[.bool f.h, vi ki f.fr, vi ki f.off, vi ki f.A.m, vi ki f.A.k, vi ki f.A.d, vi ki f.A.n, vi ki f.A.s, .int .u8 f.A.z, vi ki f.A.v, .string f.A.t, vi ki f.B.m, vi ki f.B.k, vi ki f.B.d, vi ki f.B.n, vi ki f.B.s, .int .u8 f.B.z, vi ki f.B.v, .string f.B.t] 42)).alloc (.cells #[vi ki 0, vi ki 0, .bool false, .string ⟨#[]⟩] 23)) (w.heap.size) ([.bool f.h, vi ki f.fr, vi ki f.off, vi ki f.A.m, vi ki f.A.k, vi ki f.A.d, vi ki f.A.n, vi ki f.A.s, .int .u8 f.A.z, vi ki f.A.v, .string f.A.t, vi ki f.B.m, vi ki f.B.k, vi ki f.B.d, vi ki f.B.n, vi ki f.B.s, .int .u8 f.B.z, vi ki f.B.v, .string f.B.t])) := ((Bx.newAt w ([.bool f.h, vi ki f.fr, vi ki f.off, vi ki f.A.m, vi ki f.A.k, vi ki f.A.d, vi ki f.A.n, vi ki f.A.s, .int .u8 f.A.z, vi ki f.A.v, .string f.A.t, vi ki f.B.m, vi ki f.B.k, vi ki f.B.d, vi ki f.B.n, vi ki f.B.s, .int .u8 f.B.z, vi ki f.B.v, .string f.B.t]) _ _ (by simp)).alloc _)
 have X1 : Hid (Bx ((w.alloc (.cells #[.bool f.h, vi ki f.fr, vi ki f.off, vi ki f.A.m, vi ki f.A.k, vi ki f.A.d, vi ki f.A.n, vi ki f.A.s, .int .u8 f.A.z, vi ki f.A.v, .string f.A.t, vi ki f.B.m, vi ki f.B.k, vi ki f.B.d, vi ki f.B.n, vi ki f.B.s, .int .u8 f.B.z, vi ki f.B.v, .string f.B.t] 42)).alloc (.cells #[vi ki 0, vi ki 0, .bool false, .string ⟨#[]⟩] 23)) (w.heap.size + 1) (z4)) := (Bx.newAt (w.alloc (.cells #[.bool f.h, vi ki f.fr, vi ki f.off, vi ki f.A.m, vi ki f.A.k, vi ki f.A.d, vi ki f.A.n, vi ki f.A.s, .int .u8 f.A.z, vi ki f.A.v, .string f.A.t, vi ki f.B.m, vi ki f.B.k, vi ki f.B.d, vi ki f.B.n, vi ki f.B.s, .int .u8 f.B.z, vi ki f.B.v, .string f.B.t] 42)) (z4) _ _ (by simp))
 have L1 : Hid (Cvl.Lens ((w.alloc (.cells #[.bool f.h, vi ki f.fr, vi ki f.off, vi ki f.A.m, vi ki f.A.k, vi ki f.A.d, vi ki f.A.n, vi ki f.A.s, .int .u8 f.A.z, vi ki f.A.v, .string f.A.t, vi ki f.B.m, vi ki f.B.k, vi ki f.B.d, vi ki f.B.n, vi ki f.B.s, .int .u8 f.B.z, vi ki f.B.v, .string f.B.t] 42)).alloc (.cells #[vi ki 0, vi ki 0, .bool false, .string ⟨#[]⟩] 23))) := Lens_below hL0.out HB.out (Lens_lt hL0.out)
 have T1 : Hid (Clk.Tab ((w.alloc (.cells #[.bool f.h, vi ki f.fr, vi ki f.off, vi ki f.A.m, vi ki f.A.k, vi ki f.A.d, vi ki f.A.n, vi ki f.A.s, .int .u8 f.A.z, vi ki f.A.v, .string f.A.t, vi ki f.B.m, vi ki f.B.k, vi ki f.B.d, vi ki f.B.n, vi ki f.B.s, .int .u8 f.B.z, vi ki f.B.v, .string f.B.t] 42)).alloc (.cells #[vi ki 0, vi ki 0, .bool false, .string ⟨#[]⟩] 23))) := hT0.out.below HB.out
 go_enter Tryz.func125, Tryz.ntmps125
 go_wp2_with (first | (refine wpList_load_mid rfl 42 _ rfl w.heap.size 0 rfl [.bool f.h, vi ki f.fr, vi ki f.off, vi ki f.A.m, vi ki f.A.k, vi ki f.A.d, vi ki f.A.n, vi ki f.A.s, .int .u8 f.A.z, vi ki f.A.v, .string f.A.t, vi ki f.B.m, vi ki f.B.k, vi ki f.B.d, vi ki f.B.n, vi ki f.B.s, .int .u8 f.B.z, vi ki f.B.v, .string f.B.t] _ X0.out.all Tryz.underlying42 rfl (by kernel_rfl) ?_) | fail)
 refine (AR.out _ L1.out T1.out).mono ?_
 rintro e w1 ⟨rfl, hb⟩
 have HB1 : Hid (Below w.heap.size w w1) := HB.out.trans (hb.mono HB.out.size)
 have Y1 : Hid (Bx w1 (w.heap.size + 1) z4) := X1.out.below hb
 clear hb HB X0 X1 L1 T1 AR
 have hlt := Y1.out.1
 have Z1 : Hid (Bx ((w1.alloc (.cells #[vi ki p.t, vi ki p.o, .bool p.d, .string p.a] 23)).alloc (.cells #[vi ki q.t, vi ki q.o, .bool q.d, .string q.a] 23)) (w.heap.size + 1) z4) := (Y1.out.alloc _).alloc _
 have ZB : Hid (Below w.heap.size w ((w1.alloc (.cells #[vi ki p.t, vi ki p.o, .bool p.d, .string p.a] 23)).alloc (.cells #[vi ki q.t, vi ki q.o, .bool q.d, .string q.a] 23))) := (HB1.out.alloc HB1.out.size _).alloc (by have := HB1.out.size; simp; omega) _
 go_wp2_with (first | (refine wpList_store_mid rfl 23 _ _ rfl (w.heap.size + 1) 0 #[vi ki p.t, vi ki p.o, .bool p.d, .string p.a] rfl rfl Z1.out.there (by kernel_rfl) (tL_one p) ?_; refine gen_list (fun V => Bx V (w.heap.size + 1) (tL p) ∧ Below w.heap.size w V) ⟨Z1.out.setAll (tL p) rfl, below_setCells (by omega) _ _ _ ZB.out⟩ ?_; rintro V ⟨U1, UB⟩) | fail)
 exact bodyPost_ret (v := .tuple #[.agg #[vi ki p.t, vi ki p.o, .bool p.d, .string p.a], vi ki er]) (results_cell_t rfl _ _ _ _ _ rfl rfl (run_loadVar_mid _ _ _ _ (tL p) _ U1.all Tryz.underlying23 rfl (by kernel_rfl))) rfl ⟨rfl, UB⟩
end Go.Proofs.YtklehbmghjcmaaaGreatDoor.Fn
namespace Go.Proofs.YtklehbmghjcmaaaGreatDoor.Fn
open Go.RowKit
theorem hL_one (a : Hf) : (hL a).toArray.all (·.oneCell') = true := all_oneCell_toArray (by intro v hv; simp only [hL, List.mem_cons, List.not_mem_nil, or_false] at hv; rcases hv with rfl | rfl | rfl | rfl | rfl | rfl | rfl | rfl <;> rfl)
theorem list2 {α : Type} {l : List α} (h : l.length = 2) : ∃ c0 c1, l = [c0, c1] := by
 match l, h with
 | [c0, c1], _ => exact ⟨c0, c1, rfl⟩
theorem list3 {α : Type} {l : List α} (h : l.length = 3) : ∃ c0 c1 c2, l = [c0, c1, c2] := by
 match l, h with
 | [c0, c1, c2], _ => exact ⟨c0, c1, c2, rfl⟩
theorem list5 {α : Type} {l : List α} (h : l.length = 5) : ∃ c0 c1 c2 c3 c4, l = [c0, c1, c2, c3, c4] := by
 match l, h with
 | [c0, c1, c2, c3, c4], _ => exact ⟨c0, c1, c2, c3, c4, rfl⟩
theorem list8 {α : Type} {l : List α} (h : l.length = 8) : ∃ c0 c1 c2 c3 c4 c5 c6 c7, l = [c0, c1, c2, c3, c4, c5, c6, c7] := by
 match l, h with
 | [c0, c1, c2, c3, c4, c5, c6, c7], _ => exact ⟨c0, c1, c2, c3, c4, c5, c6, c7, rfl⟩
theorem list19 {α : Type} {l : List α} (h : l.length = 19) : ∃ c0 c1 c2 c3 c4 c5 c6 c7 c8 c9 c10 c11 c12 c13 c14 c15 c16 c17 c18, l = [c0, c1, c2, c3, c4, c5, c6, c7, c8, c9, c10, c11, c12, c13, c14, c15, c16, c17, c18] := by
 match l, h with
 | [c0, c1, c2, c3, c4, c5, c6, c7, c8, c9, c10, c11, c12, c13, c14, c15, c16, c17, c18], _ => exact ⟨c0, c1, c2, c3, c4, c5, c6, c7, c8, c9, c10, c11, c12, c13, c14, c15, c16, c17, c18, rfl⟩
set_option maxRecDepth 100000
theorem laidOutP : laidOutB Tryz.prog = true := by kernel_rfl
section
variable {H : Type} {enc : TypeId × Value → H} {w : World} {base : Nat} {spare : Nat → Bool} {held : Bool}
open Go.ChangeShapes Go.WideShapes Go.ChangeAt Go.WideMaps Go.WideElems
theorem trod5 {P : Program} {t : TypeId} {f0 f1 f2 f3 f4 : Field} {fuel : Nat} {cs : List Value} {x : DataW H × List MemPlace} (ht : P.underlying t = some (.struct #[f0, f1, f2, f3, f4])) (h : DataW.trod enc P w base spare held fuel t cs = some x) :
  ∃ y0 y1 y2 y3 y4 n, cs.length = P.cellsOf t ∧ DataW.trod enc P w base spare held n f0.type ((cs.drop f0.offset).take (P.cellsOf f0.type)) = some y0 ∧
   DataW.trod enc P w base spare held n f1.type ((cs.drop f1.offset).take (P.cellsOf f1.type)) = some y1 ∧ DataW.trod enc P w base spare held n f2.type ((cs.drop f2.offset).take (P.cellsOf f2.type)) = some y2 ∧
   DataW.trod enc P w base spare held n f3.type ((cs.drop f3.offset).take (P.cellsOf f3.type)) = some y3 ∧ DataW.trod enc P w base spare held n f4.type ((cs.drop f4.offset).take (P.cellsOf f4.type)) = some y4 := by
 obtain ⟨xs, n, _, _, hl, hlen, hf⟩ := DataW.trod_struct ht h
 obtain ⟨y0, y1, y2, y3, y4, rfl⟩ := list5 hlen
 exact ⟨y0, y1, y2, y3, y4, n, hl, by simpa using hf 0 f0 rfl, by simpa using hf 1 f1 rfl, by simpa using hf 2 f2 rfl, by simpa using hf 3 f3 rfl, by simpa using hf 4 f4 rfl⟩
theorem on_open {n : Nat} {cs : List Value} {y : DataW H × List MemPlace} (h : DataW.trod enc Tryz.prog w base spare held n 26 cs = some y) :
  ∃ k d m : Int, cs = [vi ki k, vi ki d, vi ki m] ∧ (Lit.int .i64 k).wf = true ∧ (Lit.int .i64 d).wf = true ∧ (Lit.int .i64 m).wf = true := by
 obtain ⟨y0, y1, y2, n', _, hl, h0, h1, h2⟩ := Deep.trod_struct3 Tryz.underlying26 h
 have hc : cs.length = 3 := hl.trans (show Tryz.prog.cellsOf 26 = 3 by kernel_rfl)
 obtain ⟨c0, c1, c2, rfl⟩ := list3 hc
 ·obtain ⟨k, e0, _, w0⟩ := DataW.trod_int Tryz.underlying3 h0
  obtain ⟨d, e1, _, w1⟩ := DataW.trod_int Tryz.underlying2 h1
  obtain ⟨m, e2, _, w2⟩ := DataW.trod_int Tryz.underlying2 h2
  rw [show Tryz.prog.cellsOf 3 = 1 by kernel_rfl] at e0
  rw [show Tryz.prog.cellsOf 2 = 1 by kernel_rfl] at e1 e2
  simp at e0 e1 e2
  exact ⟨k, d, m, by rw [e0, e1, e2], w0, w1, w2⟩
theorem at_open {n : Nat} {cs : List Value} {y : DataW H × List MemPlace} (h : DataW.trod enc Tryz.prog w base spare held n 28 cs = some y) :
  ∃ s z : Int, cs = [vi ki s, .int .u8 z] ∧ (Lit.int .i64 s).wf = true ∧ (Lit.int .u8 z).wf = true := by
 obtain ⟨y0, y1, n', _, hl, h0, h1⟩ := trod_struct2 Tryz.underlying28 h
 have hc : cs.length = 2 := hl.trans (show Tryz.prog.cellsOf 28 = 2 by kernel_rfl)
 obtain ⟨c0, c1, rfl⟩ := list2 hc
 ·obtain ⟨k, e0, _, w0⟩ := DataW.trod_int Tryz.underlying2 h0
  obtain ⟨d, e1, _, w1⟩ := DataW.trod_int Tryz.underlying5 h1
  rw [show Tryz.prog.cellsOf 2 = 1 by kernel_rfl] at e0
  rw [show Tryz.prog.cellsOf 5 = 1 by kernel_rfl] at e1
  simp at e0 e1
  exact ⟨k, d, by rw [e0, e1], w0, w1⟩
def wfH (a : Hf) : Prop := (Lit.int .i64 a.m).wf = true ∧ (Lit.int .i64 a.k).wf = true ∧ (Lit.int .i64 a.d).wf = true ∧ (Lit.int .i64 a.n).wf = true ∧ (Lit.int .i64 a.s).wf = true ∧ (Lit.int .u8 a.z).wf = true ∧ (Lit.int .i64 a.v).wf = true
def wfF (f : Ft) : Prop := (Lit.int .i64 f.off).wf = true ∧ wfH f.A ∧ wfH f.B
theorem half_open {n : Nat} {cs : List Value} {y : DataW H × List MemPlace} (h : DataW.trod enc Tryz.prog w base spare held n 30 cs = some y) : ∃ a : Hf, cs = hL a ∧ wfH a := by
 obtain ⟨x0, x1, x2, x3, x4, n', hl, h0, h1, h2, h3, h4⟩ := trod5 Tryz.underlying30 h
 have hc : cs.length = 8 := hl.trans (show Tryz.prog.cellsOf 30 = 8 by kernel_rfl)
 obtain ⟨c0, c1, c2, c3, c4, c5, c6, c7, rfl⟩ := list8 hc
 · skip
   simp only [show Tryz.prog.cellsOf 2 = 1 by kernel_rfl, show Tryz.prog.cellsOf 26 = 3 by kernel_rfl, show Tryz.prog.cellsOf 28 = 2 by kernel_rfl, show Tryz.prog.cellsOf 9 = 1 by kernel_rfl, List.drop_succ_cons, List.drop_zero, List.take_succ_cons, List.take_zero] at h0 h1 h2 h3 h4
   obtain ⟨m, e0, _, w0⟩ := DataW.trod_int Tryz.underlying2 h0
   obtain ⟨k, d, n0, e1, w1, w2, w3⟩ := on_open h1
   obtain ⟨s, z, e2, w4, w5⟩ := at_open h2
   obtain ⟨v, e3, _, w6⟩ := DataW.trod_int Tryz.underlying2 h3
   obtain ⟨t, e4, _, w7⟩ := DataW.trod_string Tryz.underlying9 h4
   simp only [List.cons.injEq, and_true] at e0 e1 e2 e3 e4
   exact ⟨⟨m, k, d, n0, s, z, v, t⟩, by unfold hL; rw [e0, e1.1, e1.2.1, e1.2.2, e2.1, e2.2, e3, e4], w0, w1, w2, w3, w4, w5, w6⟩
end
def zF : List Value := [.bool false, vi ki 0, vi ki 0, vi ki 0, vi ki 0, vi ki 0, vi ki 0, vi ki 0, .int .u8 0, vi ki 0, .string ⟨#[]⟩, vi ki 0, vi ki 0, vi ki 0, vi ki 0, vi ki 0, .int .u8 0, vi ki 0, .string ⟨#[]⟩]
theorem fL_one (f : Ft) : (fL f).toArray.all (·.oneCell') = true := all_oneCell_toArray (by
 intro v hv
 simp only [fL, List.mem_cons, List.not_mem_nil, or_false] at hv
 repeat' (rcases hv with rfl | hv)
 all_goals first | rfl | (subst hv; rfl))
def GS (w : World) (f : Ft) (W : World) : Prop := Below w.heap.size w W ∧ Bx W w.heap.size (fL f) ∧ (Bx W (w.heap.size + 1) zF ∨ Bx W (w.heap.size + 1) (fL f))
theorem GS.below {w W V : World} {f : Ft} (h : GS w f W) (hb : Below W.heap.size W V) : GS w f V := ⟨h.1.trans (hb.mono h.1.size), h.2.1.below hb, h.2.2.imp (·.below hb) (·.below hb)⟩
theorem GS.there {w W : World} {f : Ft} (h : GS w f W) : W.there (w.heap.size + 1) 0 19 := by rcases h.2.2 with q | q <;> exact q.there
theorem GS.done {w W : World} {f : Ft} (h : GS w f W) : Bx (W.setCells (w.heap.size + 1) 0 (fL f)) (w.heap.size + 1) (fL f) := by rcases h.2.2 with q | q <;> exact q.setAll (fL f) rfl
theorem GS.put {w W : World} {f : Ft} (h : GS w f W) : GS w f (W.setCells (w.heap.size + 1) 0 (fL f)) := ⟨below_setCells (by omega) _ _ _ h.1, h.2.1.setOther (by omega) _, .inr h.done⟩
end Go.Proofs.YtklehbmghjcmaaaGreatDoor.Fn
namespace Go.Proofs.YtklehbmghjcmaaaGreatDoor.Fn
open Go.RowKit
theorem h17_any (a : Hf) (w : World) :
  Calls Tryz.prog 30 #[.agg (hL a).toArray] w fun e w' => e = zr (.agg (hL a).toArray) ∧ Below w.heap.size w w' := by
 have Z1 : Hid (Bx (w.alloc (.cells #[vi ki a.m, vi ki a.k, vi ki a.d, vi ki a.n, vi ki a.s, .int .u8 a.z, vi ki a.v, .string a.t] 30) |>.alloc (.cells #[vi ki 0, vi ki 0, vi ki 0, vi ki 0, vi ki 0, .int .u8 0, vi ki 0, .string ⟨#[]⟩] 40)) (w.heap.size + 1) [vi ki 0, vi ki 0, vi ki 0, vi ki 0, vi ki 0, .int .u8 0, vi ki 0, .string ⟨#[]⟩]) := Bx.newAt _ [vi ki 0, vi ki 0, vi ki 0, vi ki 0, vi ki 0, .int .u8 0, vi ki 0, .string ⟨#[]⟩] _ _ (by simp)
 have ZB : Hid (Below w.heap.size w (w.alloc (.cells #[vi ki a.m, vi ki a.k, vi ki a.d, vi ki a.n, vi ki a.s, .int .u8 a.z, vi ki a.v, .string a.t] 30) |>.alloc (.cells #[vi ki 0, vi ki 0, vi ki 0, vi ki 0, vi ki 0, .int .u8 0, vi ki 0, .string ⟨#[]⟩] 40))) := ((Below.refl _ _).alloc (by simp) _).alloc (by simp) _
 show Calls Tryz.prog 30 #[.agg #[vi ki a.m, vi ki a.k, vi ki a.d, vi ki a.n, vi ki a.s, .int .u8 a.z, vi ki a.v, .string a.t]] w _
 go_enter Tryz.func30, Tryz.ntmps30
 go_wp2_with (first | (refine wpList_store_mid rfl 40 _ _ rfl (w.heap.size + 1) 0 #[vi ki a.m, vi ki a.k, vi ki a.d, vi ki a.n, vi ki a.s, .int .u8 a.z, vi ki a.v, .string a.t] rfl rfl Z1.out.there (by kernel_rfl) (hL_one a) ?_; refine gen_list (fun V => Bx V (w.heap.size + 1) (hL a) ∧ Below w.heap.size w V) ⟨Z1.out.setAll (hL a) rfl, below_setCells (by omega) _ _ _ ZB.out⟩ ?_; rintro V ⟨U1, UB⟩) | fail)
 exact bodyPost_ret (v := .agg (hL a).toArray) (results_cell1 rfl _ _ _ _ rfl (run_loadVar_mid _ _ _ _ (hL a) _ U1.all Tryz.underlying40 rfl (by kernel_rfl))) rfl ⟨rfl, UB⟩
end Go.Proofs.YtklehbmghjcmaaaGreatDoor.Fn
