import Derived.Test.YtklehbmghjcmaaaGreatDoorQz
import Derived.Test.YtklehbmghjcmaaaGreatDoorQ5
import Derived.RangeFuncNested
import Derived.RangeFuncBound
import Derived.RangeFuncCalls
import Derived.RangeFuncLeaves
import Derived.Shelf.Abstract
import Derived.Shelf.RegionOpen
import Derived.WalkKit
import Derived.OwnWalkIn
import Derived.TacticsInMore
import Derived.LoopNIn
import Derived.LoopIn
import Derived.Lib.SmallJoins
import Derived.Deep.Strs
import Derived.OpenShut
import Derived.ProofKit
import Derived.Test.YtklehbmghjcmaaaGreatDoorQ1
import Derived.SizedLaws
import Derived.ChangeArms
import Derived.DataElems
open Go.Value renaming int → vi
open Go.IntKind renaming i64 → ki
open List renaming setIfInBounds_toArray → zb, set_cons_zero → zc, set_cons_succ → zd
open Go.Act renaming put → za
open Go.Ending renaming returned → zr
set_option maxRecDepth 100000
set_option maxHeartbeats 16000000
set_option linter.unusedVariables false
namespace Go.Proofs.YtklehbmghjcmaaaGreatDoor.Fn
open Go.RowKit
theorem results_cell1 {P : Program} {fn : Func} {p : Tmp} {ty : TypeId} (h : fn.results = #[.cell p ty]) (tmps : Array Value) (w : World) (a : Addr) (v : Value) (hp : tmps[p]?.getD undef = .pointer (some a)) (hl : (loadVar ty a).run P w = .ok v w) :
  (results fn tmps).run P w = .ok v w := by
 simp [results, h, hp, asAddr, hl]
theorem MapF.madeAt (W : World) (f : Int → Value) (b : Nat) (h : W.heap.size = b) : MapF (W.alloc (.map #[] 0)) b f := h ▸ MapF.made W f
theorem cal_one (f : Ft) (m : Nat) : (#[.bool f.h, vi ki f.fr, vi ki f.off, vi ki f.A.m, vi ki f.A.k, vi ki f.A.d, vi ki f.A.n, vi ki f.A.s, .int .u8 f.A.z, vi ki f.A.v, .string f.A.t, vi ki f.B.m, vi ki f.B.k, vi ki f.B.d, vi ki f.B.n, vi ki f.B.s, .int .u8 f.B.z, vi ki f.B.v, .string f.B.t, .map (some m)] : Array Value).all (·.oneCell') = true := all_oneCell_toArray (cs := cL f m) (by
 intro v hv
 simp only [cL, List.mem_cons, List.not_mem_nil, or_false] at hv
 repeat' (rcases hv with rfl | hv)
 all_goals first | rfl | (subst hv; rfl))
attribute [local go_sem] Oper.semAt_some
def shK (f : Ft) (y0 : Int) (k : Nat) : Tr := if k % 2 = 0 then sh1 f (y0 + (k / 2 : Nat)) else sh2 f (y0 + (k / 2 : Nat))
theorem shK_0 (f : Ft) (y0 : Int) (j : Nat) : shK f y0 (2 * j) = sh1 f (y0 + j) := by unfold shK; rw [if_pos (by omega), show 2 * j / 2 = j by omega]
theorem shK_1 (f : Ft) (y0 : Int) (j : Nat) : shK f y0 (2 * j + 1) = sh2 f (y0 + j) := by unfold shK; rw [if_neg (by omega), show (2 * j + 1) / 2 = j by omega]
structure ItS (f : Ft) (m bf bt bc : Nat) (y0 y1 : Int) (W : World) : Prop where
 cf : W.cell? ⟨bf, 0, none⟩ = some (vi ki y0)
 ct : W.cell? ⟨bt, 0, none⟩ = some (vi ki y1)
 cc : Bx W bc (cL f m)
 mp : MapF W m (prV f)
 ln : Cvl.Lens W
 lf : bf < W.heap.size
 lt : bt < W.heap.size
 nf : bf ≠ m
 nt : bt ≠ m
 nc : bc ≠ m
theorem Lens_same {W V : World} (h : Cvl.Lens W) (e : V.heap[1]? = W.heap[1]?) : Cvl.Lens V := fun i hi => (World.cell?_of_block (w := W) e).trans (h i hi)
theorem ItS.grown {f : Ft} {m bf bt bc : Nat} {y0 y1 : Int} {W V : World} (h : ItS f m bf bt bc y0 y1 W) (hg : W.grownBy V (some m)) (hM : MapF V m (prV f)) : ItS f m bf bt bc y0 y1 V :=
 ⟨(World.cell?_of_block (w := W) (hg.block bf h.lf (fun q => h.nf (by cases q; rfl)))).trans h.cf, (World.cell?_of_block (w := W) (hg.block bt h.lt (fun q => h.nt (by cases q; rfl)))).trans h.ct, h.cc.grown hg h.nc, hM,
  Lens_same h.ln (hg.block _ (Lens_lt h.ln) (fun q => lens_map h.ln h.mp (by cases q; rfl))), Nat.lt_of_lt_of_le h.lf hg.size, Nat.lt_of_lt_of_le h.lt hg.size, h.nf, h.nt, h.nc⟩
theorem Bx.same {W V : World} {b : Nat} {l : List Value} (h : Bx W b l) (hs : W.heap.size ≤ V.heap.size) (e : V.heap[b]? = W.heap[b]?) : Bx V b l :=
 ⟨Nat.lt_of_lt_of_le h.1 hs, fun i v q => ⟨(World.cell?_of_block (w := W) e).trans (h.2 i v q).1, (World.frozen?_of_block (w := W) e).trans (h.2 i v q).2⟩⟩
theorem ItS.kept {f : Ft} {m bf bt bc : Nat} {y0 y1 : Int} {W V : World} (h : ItS f m bf bt bc y0 y1 W) (hk : Kept [bf, bt, bc, m, 1] W V) : ItS f m bf bt bc y0 y1 V :=
 ⟨(World.cell?_of_block (w := W) (hk.2 bf (by simp))).trans h.cf, (World.cell?_of_block (w := W) (hk.2 bt (by simp))).trans h.ct, h.cc.same hk.1 (hk.2 bc (by simp)), h.mp.same (hk.2 m (by simp)),
  Lens_same h.ln (hk.2 _ (by simp)), Nat.lt_of_lt_of_le h.lf hk.1, Nat.lt_of_lt_of_le h.lt hk.1, h.nf, h.nt, h.nc⟩
theorem it_in (f : Ft) (hf : okF f = true) (m bf bt bc n l : Nat) (y0 y1 : Int) (Y : Nat) (hY1 : y1 = y0 + Y - 1) (a1 : -4718 < y0) (a2 : y1 < 294282) (a3 : y0 ≤ 294282) (J Jx : Nat → World → Prop) (hJ : Ab m J)
  (hY : ∀ k W1, k < 2 * Y → J k W1 → YieldAt Fence.wide (n - 1) Tryz.prog l #[.agg (tL (shK f y0 k)).toArray] W1 fun e W' =>
   (e = zr (.bool true) ∧ J (k + 1) W' ∧ Kept [bf, bt, bc, m, 1] W1 W') ∨ (e = zr (.bool false) ∧ Jx (k + 1) W'))
  (W : World) (hS : ItS f m bf bt bc y0 y1 W) (h0 : J 0 W) :
  CallsIn Fence.wide n Tryz.prog 219 #[.func (.yield l) #[] #[], .pointer (some ⟨bf, 0, none⟩), .pointer (some ⟨bt, 0, none⟩), .pointer (some ⟨bc, 0, none⟩)] W fun e W' => (∃ v, e = .returned v) ∧ (J (2 * Y) W' ∨ ∃ k, k < 2 * Y ∧ Jx (k + 1) W') := by
 refine callsIn_of_wp Tryz.func219 rfl trivial ?_ rfl
 simp only [Tryz.ntmps219, List.size_toArray, List.length_cons, List.length_nil, Nat.reduceAdd, Nat.reduceSub, Array.replicate_succ, Array.replicate_zero, List.push_toArray, List.append_toArray, List.nil_append, List.cons_append]
 have cf := hS.cf
 have HY1 : Hid (y1 = y0 + Y - 1) := hY1
 clear hY1
 gi_wp2
 gi_loopw [5] (fun yv wr => ∃ j : Nat, yv = vi ki (y0 + j) ∧ j ≤ Y ∧ J (2 * j) wr ∧ ItS f m bf bt bc y0 y1 wr) (fun yv _ => (y1 + 1 - intOf yv).toNat)
 case atStart => exact ⟨0, by simp, by omega, h0, hS⟩
 case round =>
  obtain ⟨j, rfl, hj, hJj, hSj⟩ := hrel
  have ct := hSj.ct
  by_cases hlt : j < Y
  ·have hle : y0 + (j : Int) ≤ y1 := by have := HY1.out; omega
   gi_wp2
   gi_loopw [13] (fun iv wr => ∃ i : Nat, iv = vi ki (i : Int) ∧ i ≤ 2 ∧ J (2 * j + i) wr ∧ ItS f m bf bt bc y0 y1 wr) (fun iv _ => (2 - intOf iv).toNat)
   case atStart => exact ⟨0, rfl, by omega, hJj, hSj⟩
   case round =>
    obtain ⟨i, rfl, hi, hJi, hSi⟩ := hrel
    by_cases hi2 : i < 2
    ·have hi3 : (i : Int) < 2 := by omega
     have SH : Hid (∀ w : World, Cvl.Lens w → MapF w m (prV f) → Calls Tryz.prog 220 #[.agg (cL f m).toArray, vi ki (y0 + j), vi ki i] w fun e w' => e = zr (.agg (tL (shK f y0 (2 * j + i))).toArray) ∧ MapF w' m (prV f) ∧ w.grownBy w' (some m)) := fun w hw hm => by
      have R := shift_any f m (y0 + j) i (by omega) hf (by unfold dyY; omega) w hw hm
      have e : (if (i : Int) = 0 then sh1 f (y0 + j) else sh2 f (y0 + j)) = shK f y0 (2 * j + i) := by
       by_cases h : i = 0
       ·subst h; rw [if_pos (by rfl)]; exact (shK_0 f y0 j).symm
       ·obtain rfl : i = 1 := by omega
        rw [if_neg (by omega)]; exact (shK_1 f y0 j).symm
      rw [e] at R
      exact R
     have HS : Hid (ItS f m bf bt bc y0 y1 wr) := hSi
     have HJ : Hid (J (2 * j + i) wr) := hJi
     clear hSi hJi hSj hJj hS h0 cf ct
     gi_wp2_with (first | (refine wpListIn_load_mid rfl 229 _ rfl bc 0 rfl (cL f m) _ HS.out.cc.all Tryz.underlying229 rfl (by kernel_rfl) ?_) | fail)
     refine ⟨trivial, (fun h => by cases h), (callsIn_wide.2 (SH.out _ HS.out.ln HS.out.mp)).mono ?_⟩
     rintro e w1 ⟨rfl, M1, G1⟩
     have S1 : Hid (ItS f m bf bt bc y0 y1 w1) := HS.out.grown G1 M1
     have J1 : J (2 * j + i) w1 := hJ _ _ _ _ HJ.out G1 (fun r e => by cases e; rfl)
     clear HS HJ M1 G1 SH
     obtain ⟨fn, tmps, assign, body, hy, hR⟩ := hY (2 * j + i) w1 (by omega) J1
     have HR : Hid (RoundIn Fence.wide (n - 1) Tryz.prog l fn tmps assign body w1 fun e W' => (e = zr (.bool true) ∧ J (2 * j + i + 1) W' ∧ Kept [bf, bt, bc, m, 1] w1 W') ∨ (e = zr (.bool false) ∧ Jx (2 * j + i + 1) W')) := hR
     clear hR
     gi_wp2
     refine ⟨(fun h => by cases h), HR.out.mono ?_⟩
     rintro e w2 (⟨rfl, hJ2, hk2⟩ | ⟨rfl, hJx2⟩)
     ·have S2 : Hid (ItS f m bf bt bc y0 y1 w2) := S1.out.kept hk2
      have J2 : Hid (J (2 * j + i + 1) w2) := hJ2
      clear S1 hJ2 hk2 HR hy J1
      gi_wp2
      go_roundw
      case rel => exact ⟨i + 1, by simp, by omega, J2.out, S2.out⟩
      case measure => simp [intOf]; omega
     ·have J2 : Hid (Jx (2 * j + i + 1) w2) := hJx2
      clear S1 hJx2 HR hy J1
      gi_wp2
      refine bodyPost_ret (results_none rfl _ _ _) rfl ?_
      exact ⟨⟨_, rfl⟩, .inr ⟨2 * j + i, by omega, J2.out⟩⟩
    ·obtain rfl : i = 2 := by omega
     gi_wp2
     refine ⟨⟨j + 1, by rw [show y0 + ((j + 1 : Nat) : Int) = y0 + j + 1 by omega], by omega, by rw [show 2 * (j + 1) = 2 * j + 2 by omega]; exact hJi, hSi⟩, ?_⟩
     simp [intOf]; omega
  ·have hle : ¬ y0 + (j : Int) ≤ y1 := by have := HY1.out; omega
   gi_wp2
   go_end0
   exact ⟨⟨_, rfl⟩, .inl (by rw [show Y = j by omega]; exact hJj)⟩
theorem it_seq (f : Ft) (hf : okF f = true) (m bf bt bc n : Nat) (y0 y1 : Int) (Y : Nat) (hY1 : y1 = y0 + Y - 1) (a1 : -4718 < y0) (a2 : y1 < 294282) (a3 : y0 ≤ 294282) (w : World) (hS : ItS f m bf bt bc y0 y1 w) :
  SeqM Fence.wide n Tryz.prog 219 #[.pointer (some ⟨bf, 0, none⟩), .pointer (some ⟨bt, 0, none⟩), .pointer (some ⟨bc, 0, none⟩)] m [bf, bt, bc, m, 1] (fun k => .agg (tL (shK f y0 k)).toArray) (2 * Y) w :=
 fun l J Jx W hW hJ hJx hY h0 => by
  have hml : m < w.heap.size := by obtain ⟨es, c, hb, _⟩ := hS.mp; exact (Array.getElem?_eq_some_iff.1 hb).1
  exact it_in f hf m bf bt bc n l y0 y1 Y hY1 a1 a2 a3 J Jx hJ hY W (hS.kept ⟨hW.size, fun k hk => by
   simp at hk
   rcases hk with rfl | rfl | rfl | rfl | rfl
   ·exact hW.block _ hS.lf
   ·exact hW.block _ hS.lt
   ·exact hW.block _ hS.cc.1
   ·exact hW.block _ hml
   ·exact hW.block _ (Lens_lt hS.ln)⟩) h0
theorem shifts_any (f : Ft) (m : Nat) (y0 y1 : Int) (w : World) :
  Calls Tryz.prog 201 #[.agg #[.bool f.h, vi ki f.fr, vi ki f.off, vi ki f.A.m, vi ki f.A.k, vi ki f.A.d, vi ki f.A.n, vi ki f.A.s, .int .u8 f.A.z, vi ki f.A.v, .string f.A.t, vi ki f.B.m, vi ki f.B.k, vi ki f.B.d, vi ki f.B.n, vi ki f.B.s, .int .u8 f.B.z, vi ki f.B.v, .string f.B.t, .map (some m)], vi ki y0, vi ki y1] w fun e w' => e = zr (.func (.func 219) #[] #[.pointer (some ⟨w.heap.size + 1, 0, none⟩), .pointer (some ⟨w.heap.size + 2, 0, none⟩), .pointer (some ⟨w.heap.size, 0, none⟩)]) ∧ w' = (((w.alloc (.cells #[.bool f.h, vi ki f.fr, vi ki f.off, vi ki f.A.m, vi ki f.A.k, vi ki f.A.d, vi ki f.A.n, vi ki f.A.s, .int .u8 f.A.z, vi ki f.A.v, .string f.A.t, vi ki f.B.m, vi ki f.B.k, vi ki f.B.d, vi ki f.B.n, vi ki f.B.s, .int .u8 f.B.z, vi ki f.B.v, .string f.B.t, .map (some m)] 229)).alloc (.cells #[vi ki y0] 2)).alloc (.cells #[vi ki y1] 2)) := by
 have hmf : ∀ (fn : Fn) (first cap : Array Value) (w : World), (Instr.makeFunc fn first cap).run Tryz.prog w = .ok (.func fn first cap) w := fun _ _ _ _ => rfl
 go_enter Tryz.func201, Tryz.ntmps201
 go_wp2
 go_ret
 exact ⟨rfl, rfl⟩
theorem begin_any (f : Ft) (w : World) :
  Calls Tryz.prog 200 #[.agg #[.bool f.h, vi ki f.fr, vi ki f.off, vi ki f.A.m, vi ki f.A.k, vi ki f.A.d, vi ki f.A.n, vi ki f.A.s, .int .u8 f.A.z, vi ki f.A.v, .string f.A.t, vi ki f.B.m, vi ki f.B.k, vi ki f.B.d, vi ki f.B.n, vi ki f.B.s, .int .u8 f.B.z, vi ki f.B.v, .string f.B.t]] w fun e w' => e = zr (.agg (cL f (w.heap.size + 2)).toArray) ∧ MapF w' (w.heap.size + 2) (prV f) ∧ Below w.heap.size w w' := by
 have hmm := @run_makeMap Tryz.prog
 have X0 : Hid (Bx ((w.alloc (.cells #[.bool f.h, vi ki f.fr, vi ki f.off, vi ki f.A.m, vi ki f.A.k, vi ki f.A.d, vi ki f.A.n, vi ki f.A.s, .int .u8 f.A.z, vi ki f.A.v, .string f.A.t, vi ki f.B.m, vi ki f.B.k, vi ki f.B.d, vi ki f.B.n, vi ki f.B.s, .int .u8 f.B.z, vi ki f.B.v, .string f.B.t] 42)).alloc (.cells #[.bool false, vi ki 0, vi ki 0, vi ki 0, vi ki 0, vi ki 0, vi ki 0, vi ki 0, .int .u8 0, vi ki 0, .string ⟨#[]⟩, vi ki 0, vi ki 0, vi ki 0, vi ki 0, vi ki 0, .int .u8 0, vi ki 0, .string ⟨#[]⟩, .map none] 229)) w.heap.size [.bool f.h, vi ki f.fr, vi ki f.off, vi ki f.A.m, vi ki f.A.k, vi ki f.A.d, vi ki f.A.n, vi ki f.A.s, .int .u8 f.A.z, vi ki f.A.v, .string f.A.t, vi ki f.B.m, vi ki f.B.k, vi ki f.B.d, vi ki f.B.n, vi ki f.B.s, .int .u8 f.B.z, vi ki f.B.v, .string f.B.t]) := (Bx.new w [.bool f.h, vi ki f.fr, vi ki f.off, vi ki f.A.m, vi ki f.A.k, vi ki f.A.d, vi ki f.A.n, vi ki f.A.s, .int .u8 f.A.z, vi ki f.A.v, .string f.A.t, vi ki f.B.m, vi ki f.B.k, vi ki f.B.d, vi ki f.B.n, vi ki f.B.s, .int .u8 f.B.z, vi ki f.B.v, .string f.B.t] _).alloc _
 have X1 : Hid (Bx (((w.alloc (.cells #[.bool f.h, vi ki f.fr, vi ki f.off, vi ki f.A.m, vi ki f.A.k, vi ki f.A.d, vi ki f.A.n, vi ki f.A.s, .int .u8 f.A.z, vi ki f.A.v, .string f.A.t, vi ki f.B.m, vi ki f.B.k, vi ki f.B.d, vi ki f.B.n, vi ki f.B.s, .int .u8 f.B.z, vi ki f.B.v, .string f.B.t] 42)).alloc (.cells #[.bool false, vi ki 0, vi ki 0, vi ki 0, vi ki 0, vi ki 0, vi ki 0, vi ki 0, .int .u8 0, vi ki 0, .string ⟨#[]⟩, vi ki 0, vi ki 0, vi ki 0, vi ki 0, vi ki 0, .int .u8 0, vi ki 0, .string ⟨#[]⟩, .map none] 229)).alloc (.map #[] 0)) (w.heap.size + 1) [.bool false, vi ki 0, vi ki 0, vi ki 0, vi ki 0, vi ki 0, vi ki 0, vi ki 0, .int .u8 0, vi ki 0, .string ⟨#[]⟩, vi ki 0, vi ki 0, vi ki 0, vi ki 0, vi ki 0, .int .u8 0, vi ki 0, .string ⟨#[]⟩, .map none]) := (Bx.newAt (w.alloc (.cells #[.bool f.h, vi ki f.fr, vi ki f.off, vi ki f.A.m, vi ki f.A.k, vi ki f.A.d, vi ki f.A.n, vi ki f.A.s, .int .u8 f.A.z, vi ki f.A.v, .string f.A.t, vi ki f.B.m, vi ki f.B.k, vi ki f.B.d, vi ki f.B.n, vi ki f.B.s, .int .u8 f.B.z, vi ki f.B.v, .string f.B.t] 42)) [.bool false, vi ki 0, vi ki 0, vi ki 0, vi ki 0, vi ki 0, vi ki 0, vi ki 0, .int .u8 0, vi ki 0, .string ⟨#[]⟩, vi ki 0, vi ki 0, vi ki 0, vi ki 0, vi ki 0, .int .u8 0, vi ki 0, .string ⟨#[]⟩, .map none] _ _ (by simp)).alloc _
 have BB : Hid (Below w.heap.size w (((w.alloc (.cells #[.bool f.h, vi ki f.fr, vi ki f.off, vi ki f.A.m, vi ki f.A.k, vi ki f.A.d, vi ki f.A.n, vi ki f.A.s, .int .u8 f.A.z, vi ki f.A.v, .string f.A.t, vi ki f.B.m, vi ki f.B.k, vi ki f.B.d, vi ki f.B.n, vi ki f.B.s, .int .u8 f.B.z, vi ki f.B.v, .string f.B.t] 42)).alloc (.cells #[.bool false, vi ki 0, vi ki 0, vi ki 0, vi ki 0, vi ki 0, vi ki 0, vi ki 0, .int .u8 0, vi ki 0, .string ⟨#[]⟩, vi ki 0, vi ki 0, vi ki 0, vi ki 0, vi ki 0, .int .u8 0, vi ki 0, .string ⟨#[]⟩, .map none] 229)).alloc (.map #[] 0))) := (((Below.refl _ _).alloc (by simp) _).alloc (by simp) _).alloc (by simp; omega) _
 have MM : Hid (MapF (((w.alloc (.cells #[.bool f.h, vi ki f.fr, vi ki f.off, vi ki f.A.m, vi ki f.A.k, vi ki f.A.d, vi ki f.A.n, vi ki f.A.s, .int .u8 f.A.z, vi ki f.A.v, .string f.A.t, vi ki f.B.m, vi ki f.B.k, vi ki f.B.d, vi ki f.B.n, vi ki f.B.s, .int .u8 f.B.z, vi ki f.B.v, .string f.B.t] 42)).alloc (.cells #[.bool false, vi ki 0, vi ki 0, vi ki 0, vi ki 0, vi ki 0, vi ki 0, vi ki 0, .int .u8 0, vi ki 0, .string ⟨#[]⟩, vi ki 0, vi ki 0, vi ki 0, vi ki 0, vi ki 0, .int .u8 0, vi ki 0, .string ⟨#[]⟩, .map none] 229)).alloc (.map #[] 0)) (w.heap.size + 1 + 1) (prV f)) := by
  exact MapF.madeAt ((w.alloc (.cells #[.bool f.h, vi ki f.fr, vi ki f.off, vi ki f.A.m, vi ki f.A.k, vi ki f.A.d, vi ki f.A.n, vi ki f.A.s, .int .u8 f.A.z, vi ki f.A.v, .string f.A.t, vi ki f.B.m, vi ki f.B.k, vi ki f.B.d, vi ki f.B.n, vi ki f.B.s, .int .u8 f.B.z, vi ki f.B.v, .string f.B.t] 42)).alloc (.cells #[.bool false, vi ki 0, vi ki 0, vi ki 0, vi ki 0, vi ki 0, vi ki 0, vi ki 0, .int .u8 0, vi ki 0, .string ⟨#[]⟩, vi ki 0, vi ki 0, vi ki 0, vi ki 0, vi ki 0, .int .u8 0, vi ki 0, .string ⟨#[]⟩, .map none] 229)) (prV f) _ (by simp)
 go_enter Tryz.func200, Tryz.ntmps200
 go_wp2_with (first | (refine wpList_load_mid rfl 42 _ rfl w.heap.size 0 rfl [.bool f.h, vi ki f.fr, vi ki f.off, vi ki f.A.m, vi ki f.A.k, vi ki f.A.d, vi ki f.A.n, vi ki f.A.s, .int .u8 f.A.z, vi ki f.A.v, .string f.A.t, vi ki f.B.m, vi ki f.B.k, vi ki f.B.d, vi ki f.B.n, vi ki f.B.s, .int .u8 f.B.z, vi ki f.B.v, .string f.B.t] _ X0.out.all Tryz.underlying42 rfl (by kernel_rfl) ?_) | (refine wpList_store_mid rfl 229 _ _ rfl (w.heap.size + 1) 0 #[.bool f.h, vi ki f.fr, vi ki f.off, vi ki f.A.m, vi ki f.A.k, vi ki f.A.d, vi ki f.A.n, vi ki f.A.s, .int .u8 f.A.z, vi ki f.A.v, .string f.A.t, vi ki f.B.m, vi ki f.B.k, vi ki f.B.d, vi ki f.B.n, vi ki f.B.s, .int .u8 f.B.z, vi ki f.B.v, .string f.B.t, .map (some (w.heap.size + 1 + 1))] rfl rfl X1.out.there (by kernel_rfl) (cal_one f _) ?_; refine gen_list (fun V => Bx V (w.heap.size + 1) (cL f (w.heap.size + 1 + 1)) ∧ MapF V (w.heap.size + 1 + 1) (prV f) ∧ Below w.heap.size w V) ⟨X1.out.setAll (cL f (w.heap.size + 1 + 1)) rfl, MM.out.same (setCells_heap _ _ _ _ _ (by omega)), below_setCells (by omega) _ _ _ BB.out⟩ ?_; rintro V ⟨E1, E2, E3⟩) | fail)
 have lv : (loadVar 229 ⟨w.heap.size + 1, 0, none⟩).run Tryz.prog V = .ok (.agg (cL f (w.heap.size + 1 + 1)).toArray) V := run_loadVar_mid V _ _ _ (cL f (w.heap.size + 1 + 1)) _ E1.all Tryz.underlying229 rfl (by kernel_rfl)
 refine bodyPost_ret (v := .agg (cL f (w.heap.size + 1 + 1)).toArray) ?_ rfl ⟨rfl, E2, E3⟩
 exact results_cell1 rfl _ _ _ _ rfl lv
attribute [local go_sem] Oper.semAt_some
theorem bel_lens {w V : World} (h : Below w.heap.size w V) (hL : Cvl.Lens w) : Cvl.Lens V := Lens_below hL h (Lens_lt hL)
def rowsK (f : Ft) (y : Int) : Nat → List Value
 | 0 => []
 | k + 1 => rowsK f y k ++ tL (shK f y k)
theorem infoT : (Tryz.prog.info? 23).map (fun i => (i.zero, i.size, i.bytes)) = some (some (.agg #[vi ki 0, vi ki 0, .bool false, .string ⟨#[]⟩]), 4, 40) := by kernel_rfl
theorem tL_mem {x : Tr} {v : Value} (hv : v ∈ tL x) : v.oneCell' = true := by simp [tL] at hv; rcases hv with rfl | rfl | rfl | rfl <;> rfl
theorem gen_codeIn {F : Fence} {n : Nat} {P : Program} {c : Code} {Q : Exit → Act → World → Prop} {a : Act} {w1 : World} (T : World → Prop) (h : T w1) (k : ∀ w2, T w2 → c.wpIn F n P Q a w2) : c.wpIn F n P Q a w1 := k _ h
attribute [local go_sem] Oper.semAt_some
theorem wpListIn_store_mid {F : Fence} {n : Nat} {P : Program} {ops : Array Oper} {rest : List Oper} {op : Oper} {a : Act} {w : World} {Q : Exit → Act → World → Prop} (hgd : op.guard = none) (ty : TypeId) (x y : Operand) (ho : op.op = .store ty x y)
  (b o : Nat) (cells : Array Value) (hx : a.eval x = .pointer (some ⟨b, o, none⟩)) (hy : a.eval y = .agg cells)
  (ht : w.there b o cells.size) (hi : (P.info? ty).map (·.size) = some cells.size) (h1 : cells.all (·.oneCell') = true)
  (h : wpListIn F n P ops Q rest (a.put op.dst undef) (w.setCells b o cells.toList)) : wpListIn F n P ops Q (op :: rest) a w := by
 refine wpListIn_plain hgd fun K' hK' => ?_
 unfold Oper.wpIn
 refine ⟨by simp [Oper.about, ho], ?_⟩
 rw [Oper.semAt_plain F _ _ (by rw [ho]; intro c hc'; cases hc')]
 simp only [execOp, ho, hx, hy, Sem.run_bind, run_storeAt_mid w b o ty cells ht hi h1, Sem.run_pure, Result.andThen_ok]
 exact hK' _ _ h
theorem keeps_setCells (b : Nat) : ∀ (vs : List Value) (W : World) (i : Nat), KeepsOthers W (W.setCells b i vs)
 | [], W, _ => KeepsOthers.refl W
 | v :: vs, W, i => (KeepsOthers.setCell W _ v).trans (keeps_setCells b vs _ _)
theorem Bx.grownR {W W' : World} {b : Nat} {row : Option Nat} {l : List Value} (h : Bx W b l) (hg : W.grownBy W' row) (hb : ∀ r, row = some r → r ≠ b) : Bx W' b l :=
 h.same hg.size (hg.block b h.1 (fun e => hb b e.symm rfl))
theorem operIn_load_mid {F : Fence} {n : Nat} {P : Program} {op : Oper} {a : Act} {w : World} {K : Act → World → Prop} {Q : Exit → Act → World → Prop} (ty : TypeId) (x : Operand) (ho : op.op = .load ty x)
  (b o : Nat) (hx : a.eval x = .pointer (some ⟨b, o, none⟩)) (cs : List Value) (d : TypeDesc) (hc : w.rangeAt b o cs)
  (hu : P.underlying ty = some d) (hd : d.isRow = true) (hi : (P.info? ty).map (·.size) = some cs.length)
  (h : K (a.put op.dst (.agg cs.toArray)) w) : op.wpIn F n P a w K Q := by
 unfold Oper.wpIn
 refine ⟨by simp [Oper.about, ho], ?_⟩
 rw [Oper.semAt_plain F _ _ (by rw [ho]; intro c hc'; cases hc')]
 simp only [execOp, ho, hx, Sem.run_bind, run_loadAt_mid w b o ty cs d hc hu hd hi, Sem.run_pure, Result.andThen_ok]
 exact h
theorem operIn_store_mid {F : Fence} {n : Nat} {P : Program} {op : Oper} {a : Act} {w : World} {K : Act → World → Prop} {Q : Exit → Act → World → Prop} (ty : TypeId) (x y : Operand) (ho : op.op = .store ty x y)
  (b o : Nat) (cells : Array Value) (hx : a.eval x = .pointer (some ⟨b, o, none⟩)) (hy : a.eval y = .agg cells)
  (ht : w.there b o cells.size) (hi : (P.info? ty).map (·.size) = some cells.size) (h1 : cells.all (·.oneCell') = true)
  (h : K (a.put op.dst undef) (w.setCells b o cells.toList)) : op.wpIn F n P a w K Q := by
 unfold Oper.wpIn
 refine ⟨by simp [Oper.about, ho], ?_⟩
 rw [Oper.semAt_plain F _ _ (by rw [ho]; intro c hc'; cases hc')]
 simp only [execOp, ho, hx, hy, Sem.run_bind, run_storeAt_mid w b o ty cells ht hi h1, Sem.run_pure, Result.andThen_ok]
 exact h
theorem run_store1 {P : Program} (w : World) (b : Nat) (ty : TypeId) (k : IntKind) (c : Int) (ht : w.there b 0 1) (hi : (P.info? ty).map (·.size) = some 1) :
  (Instr.storeAt ty (.pointer (some ⟨b, 0, none⟩)) (.int k c)).run P w = .ok () (w.setCells b 0 [.int k c]) := by
 have := run_storeCells_cells (P := P) b 0 [.int k c] 0 w (fun j hj => by simpa using (ht j (by simpa using hj)).1) (fun j hj => by simpa using (ht j (by simpa using hj)).2) (by simp [Value.oneCell'])
 cases hq : P.info? ty with
 | none => simp [hq] at hi
 | some i =>
  have hs : 1 = i.size := by simp [hq] at hi; omega
  simp only [Nat.add_zero] at this
  simp only [Instr.storeAt, Instr.sureAddr, Sem.run_bind, Sem.run_pure, Result.andThen_ok]
  simp [storeVar, sizeOf, typeInfo, hq, Value.cells, ← hs, this]
theorem operIn_store1 {F : Fence} {n : Nat} {P : Program} {op : Oper} {a : Act} {w : World} {K : Act → World → Prop} {Q : Exit → Act → World → Prop} (ty : TypeId) (x y : Operand) (ho : op.op = .store ty x y)
  (b : Nat) (k : IntKind) (c : Int) (hx : a.eval x = .pointer (some ⟨b, 0, none⟩)) (hy : a.eval y = .int k c)
  (ht : w.there b 0 1) (hi : (P.info? ty).map (·.size) = some 1)
  (h : K (a.put op.dst undef) (w.setCells b 0 [.int k c])) : op.wpIn F n P a w K Q := by
 unfold Oper.wpIn
 refine ⟨by simp [Oper.about, ho], ?_⟩
 rw [Oper.semAt_plain F _ _ (by rw [ho]; intro c hc'; cases hc')]
 simp only [execOp, ho, hx, hy, Sem.run_bind, run_store1 w b ty k c ht hi, Sem.run_pure, Result.andThen_ok]
 exact h
theorem gen_anyIn {F : Fence} {n : Nat} {P : Program} {md : Region.Mode} {ops : Array Oper} {Q : Exit → Act → World → Prop} {fuel : Nat} {listed : Array Bool} {a : Act} {w1 : World} (T : World → Prop) (h : T w1)
  (k : ∀ w2, T w2 → wpAnyIn F n P md ops Q fuel listed a w2) : wpAnyIn F n P md ops Q fuel listed a w1 := k _ h
theorem results_cell3 {P : Program} {fn : Func} {p q r : Tmp} {t1 t2 t3 : TypeId} (h : fn.results = #[.cell p t1, .cell q t2, .cell r t3]) (tmps : Array Value) (w : World) (a b c : Addr) (u v x : Value) (hp : tmps[p]?.getD undef = .pointer (some a)) (hq : tmps[q]?.getD undef = .pointer (some b)) (hr : tmps[r]?.getD undef = .pointer (some c))
  (h1 : (loadVar t1 a).run P w = .ok u w) (h2 : (loadVar t2 b).run P w = .ok v w) (h3 : (loadVar t3 c).run P w = .ok x w) : (results fn tmps).run P w = .ok (.tuple #[u, v, x]) w := by
 simp [results, h, hp, hq, hr, asAddr, h1, h2, h3]
theorem run_loadVar1 {P : Program} {w : World} {a : Addr} {v : Value} {ty : TypeId} {k : IntKind} (hc : w.cell? a = some v) (hu : P.underlying ty = some (.int k)) : (loadVar ty a).run P w = .ok v w := by
 simp [loadVar, isAgg, run_underlying hu, hc]
def lastK (f : Ft) (y : Int) (k : Nat) : List Value := if k = 0 then z4 else tL (shK f (y - 1) (k - 1))
theorem lastK_len (f : Ft) (y : Int) (k : Nat) : (lastK f y k).length = 4 := by unfold lastK; split <;> rfl
structure AR (w : World) (f : Ft) (t y : Int) (K b8 k : Nat) (W : World) : Prop where
 le : k ≤ K
 at_ : Bx W (w.heap.size + 1) [vi ki t]
 r1 : Bx W (w.heap.size + 1 + 1) z4
 r2 : Bx W (w.heap.size + 1 + 1 + 1) z4
 r3 : Bx W (w.heap.size + 1 + 1 + 1 + 1) [vi ki 0]
 last : Bx W b8 (lastK f y k)
 bel : Below w.heap.size w W
theorem AR.grown {w : World} {f : Ft} {t y : Int} {K b8 k : Nat} {W V : World} {row : Option Nat} (h : AR w f t y K b8 k W) (hg : W.grownBy V row) (hr : ∀ r, row = some r → w.heap.size + 5 ≤ r ∧ r ≠ b8) : AR w f t y K b8 k V :=
 ⟨h.le, h.at_.grownR hg (fun r e => by have := hr r e; omega), h.r1.grownR hg (fun r e => by have := hr r e; omega), h.r2.grownR hg (fun r e => by have := hr r e; omega), h.r3.grownR hg (fun r e => by have := hr r e; omega),
  h.last.grownR hg (fun r e => (hr r e).2), h.bel.grown hg h.bel.size (fun r e => by have := hr r e; omega)⟩
theorem AR.alloc {w : World} {f : Ft} {t y : Int} {K b8 k : Nat} {W : World} (h : AR w f t y K b8 k W) (o : Obj) : AR w f t y K b8 k (W.alloc o) := h.grown (World.grownBy_alloc W o none) (fun r e => by cases e)
theorem AR.told {w : World} {f : Ft} {t y : Int} {K b8 k : Nat} {W : World} (h : AR w f t y K b8 k W) (hk : k < K) (hb : w.heap.size + 5 ≤ b8) (hx : True := trivial) : AR w f t y K b8 (k + 1) (W.setCells b8 0 (tL (shK f (y - 1) k))) :=
 ⟨by omega, h.at_.setOther (by omega) _, h.r1.setOther (by omega) _, h.r2.setOther (by omega) _, h.r3.setOther (by omega) _, by
  have := h.last.setAll (tL (shK f (y - 1) k)) (by rw [lastK_len]; rfl)
  rw [show lastK f y (k + 1) = tL (shK f (y - 1) k) by unfold lastK; rw [if_neg (by omega)]; rfl]
  exact this, below_setCells (by omega) _ _ _ h.bel⟩
structure AX (w : World) (f : Ft) (y : Int) (K : Nat) (W : World) : Prop where
 r1 : Bx W (w.heap.size + 1 + 1) (tL (shK f (y - 1) (K - 1)))
 r2 : Bx W (w.heap.size + 1 + 1 + 1) (tL (shK f (y - 1) K))
 r3 : Bx W (w.heap.size + 1 + 1 + 1 + 1) [vi ki 0]
 bel : Below w.heap.size w W
theorem AX.grown {w : World} {f : Ft} {y : Int} {K : Nat} {W V : World} {row : Option Nat} (h : AX w f y K W) (hg : W.grownBy V row) (hr : ∀ r, row = some r → w.heap.size + 5 ≤ r) : AX w f y K V :=
 ⟨h.r1.grownR hg (fun r e => by have := hr r e; omega), h.r2.grownR hg (fun r e => by have := hr r e; omega), h.r3.grownR hg (fun r e => by have := hr r e; omega), h.bel.grown hg h.bel.size (fun r e => by have := hr r e; omega)⟩
structure DS (w : World) (b8 bx B : Nat) (W : World) (p q : Tr) (L1 L2 : List Value) (V : World) : Prop where
 last : Bx V b8 (tL p)
 cur : Bx V bx (tL q)
 r1 : Bx V (w.heap.size + 1 + 1) L1
 r2 : Bx V (w.heap.size + 1 + 1 + 1) L2
 r3 : Bx V (w.heap.size + 1 + 1 + 1 + 1) [vi ki 0]
 bel : Below w.heap.size w V
 kf : KeepsFrom B W V
 o8 : w.heap.size + 5 ≤ b8
 ox : w.heap.size + 5 ≤ bx
theorem DS.s2 {w : World} {b8 bx B : Nat} {W : World} {p q : Tr} {L1 L2 : List Value} {V : World} (h : DS w b8 bx B W p q L1 L2 V) (hl : L1.length = 4) : DS w b8 bx B W p q (tL p) L2 (V.setCells (w.heap.size + 1 + 1) 0 (tL p)) :=
 have o8 := h.o8
 have ox := h.ox
 ⟨h.last.setOther (by omega) _, h.cur.setOther (by omega) _, h.r1.setAll _ (by rw [hl]; rfl), h.r2.setOther (by omega) _, h.r3.setOther (by omega) _, below_setCells (by omega) _ _ _ h.bel, h.kf.trans ((keeps_setCells _ _ _ _).from _), h.o8, h.ox⟩
theorem DS.s3 {w : World} {b8 bx B : Nat} {W : World} {p q : Tr} {L1 L2 : List Value} {V : World} (h : DS w b8 bx B W p q L1 L2 V) (hl : L2.length = 4) : DS w b8 bx B W p q L1 (tL q) (V.setCells (w.heap.size + 1 + 1 + 1) 0 (tL q)) :=
 have o8 := h.o8
 have ox := h.ox
 ⟨h.last.setOther (by omega) _, h.cur.setOther (by omega) _, h.r1.setOther (by omega) _, h.r2.setAll _ (by rw [hl]; rfl), h.r3.setOther (by omega) _, below_setCells (by omega) _ _ _ h.bel, h.kf.trans ((keeps_setCells _ _ _ _).from _), h.o8, h.ox⟩
theorem DS.s4 {w : World} {b8 bx B : Nat} {W : World} {p q : Tr} {L1 L2 : List Value} {V : World} (h : DS w b8 bx B W p q L1 L2 V) : DS w b8 bx B W p q L1 L2 (V.setCells (w.heap.size + 1 + 1 + 1 + 1) 0 [vi ki 0]) :=
 have o8 := h.o8
 have ox := h.ox
 ⟨h.last.setOther (by omega) _, h.cur.setOther (by omega) _, h.r1.setOther (by omega) _, h.r2.setOther (by omega) _, h.r3.setAll _ rfl, below_setCells (by omega) _ _ _ h.bel, h.kf.trans ((keeps_setCells _ _ _ _).from _), h.o8, h.ox⟩
theorem around_ok (f : Ft) (t y : Int) (K : Nat) (hf : okF f = true) (hy : YAt t y) (y1 : -4714 ≤ y) (y2 : y ≤ 294278) (t1 : -9223372036854775808 ≤ t) (t2 : t ≤ 9223372036854775807)
  (k1 : 1 ≤ K) (k2 : K < 6) (hK : t < (shK f (y - 1) K).t) (hlo : ∀ k, k < K → (shK f (y - 1) k).t ≤ t) (w : World) (hL0 : Hid (Cvl.Lens w)) (hT0 : Hid (Clk.Tab w)) :
  Calls Tryz.prog 168 #[.agg #[.bool f.h, vi ki f.fr, vi ki f.off, vi ki f.A.m, vi ki f.A.k, vi ki f.A.d, vi ki f.A.n, vi ki f.A.s, .int .u8 f.A.z, vi ki f.A.v, .string f.A.t, vi ki f.B.m, vi ki f.B.k, vi ki f.B.d, vi ki f.B.n, vi ki f.B.s, .int .u8 f.B.z, vi ki f.B.v, .string f.B.t], vi ki t] w fun e w' => e = zr (.tuple #[.agg (tL (shK f (y - 1) (K - 1))).toArray, .agg (tL (shK f (y - 1) K)).toArray, vi ki 0]) ∧ Below w.heap.size w w' := by
 have HB : Hid (Below w.heap.size w (((((w.alloc (.cells #[.bool f.h, vi ki f.fr, vi ki f.off, vi ki f.A.m, vi ki f.A.k, vi ki f.A.d, vi ki f.A.n, vi ki f.A.s, .int .u8 f.A.z, vi ki f.A.v, .string f.A.t, vi ki f.B.m, vi ki f.B.k, vi ki f.B.d, vi ki f.B.n, vi ki f.B.s, .int .u8 f.B.z, vi ki f.B.v, .string f.B.t] 42)).alloc (.cells #[vi ki t] 2)).alloc (.cells #[vi ki 0, vi ki 0, .bool false, .string ⟨#[]⟩] 23)).alloc (.cells #[vi ki 0, vi ki 0, .bool false, .string ⟨#[]⟩] 23)).alloc (.cells #[vi ki 0] 46))) := ((((((Below.refl _ _).alloc (by simp <;> omega) _).alloc (by simp <;> omega) _).alloc (by simp <;> omega) _).alloc (by simp <;> omega) _).alloc (by simp <;> omega) _)
 have X0 : Hid (Bx (((((w.alloc (.cells #[.bool f.h, vi ki f.fr, vi ki f.off, vi ki f.A.m, vi ki f.A.k, vi ki f.A.d, vi ki f.A.n, vi ki f.A.s, .int .u8 f.A.z, vi ki f.A.v, .string f.A.t, vi ki f.B.m, vi ki f.B.k, vi ki f.B.d, vi ki f.B.n, vi ki f.B.s, .int .u8 f.B.z, vi ki f.B.v, .string f.B.t] 42)).alloc (.cells #[vi ki t] 2)).alloc (.cells #[vi ki 0, vi ki 0, .bool false, .string ⟨#[]⟩] 23)).alloc (.cells #[vi ki 0, vi ki 0, .bool false, .string ⟨#[]⟩] 23)).alloc (.cells #[vi ki 0] 46)) (w.heap.size) (fL f)) := (((((Bx.newAt w (fL f) _ _ (by simp)).alloc _).alloc _).alloc _).alloc _)
 have X1 : Hid (Bx (((((w.alloc (.cells #[.bool f.h, vi ki f.fr, vi ki f.off, vi ki f.A.m, vi ki f.A.k, vi ki f.A.d, vi ki f.A.n, vi ki f.A.s, .int .u8 f.A.z, vi ki f.A.v, .string f.A.t, vi ki f.B.m, vi ki f.B.k, vi ki f.B.d, vi ki f.B.n, vi ki f.B.s, .int .u8 f.B.z, vi ki f.B.v, .string f.B.t] 42)).alloc (.cells #[vi ki t] 2)).alloc (.cells #[vi ki 0, vi ki 0, .bool false, .string ⟨#[]⟩] 23)).alloc (.cells #[vi ki 0, vi ki 0, .bool false, .string ⟨#[]⟩] 23)).alloc (.cells #[vi ki 0] 46)) (w.heap.size + 1) ([vi ki t])) := ((((Bx.newAt (w.alloc (.cells #[.bool f.h, vi ki f.fr, vi ki f.off, vi ki f.A.m, vi ki f.A.k, vi ki f.A.d, vi ki f.A.n, vi ki f.A.s, .int .u8 f.A.z, vi ki f.A.v, .string f.A.t, vi ki f.B.m, vi ki f.B.k, vi ki f.B.d, vi ki f.B.n, vi ki f.B.s, .int .u8 f.B.z, vi ki f.B.v, .string f.B.t] 42)) ([vi ki t]) _ _ (by simp)).alloc _).alloc _).alloc _)
 have X2 : Hid (Bx (((((w.alloc (.cells #[.bool f.h, vi ki f.fr, vi ki f.off, vi ki f.A.m, vi ki f.A.k, vi ki f.A.d, vi ki f.A.n, vi ki f.A.s, .int .u8 f.A.z, vi ki f.A.v, .string f.A.t, vi ki f.B.m, vi ki f.B.k, vi ki f.B.d, vi ki f.B.n, vi ki f.B.s, .int .u8 f.B.z, vi ki f.B.v, .string f.B.t] 42)).alloc (.cells #[vi ki t] 2)).alloc (.cells #[vi ki 0, vi ki 0, .bool false, .string ⟨#[]⟩] 23)).alloc (.cells #[vi ki 0, vi ki 0, .bool false, .string ⟨#[]⟩] 23)).alloc (.cells #[vi ki 0] 46)) (w.heap.size + 2) (z4)) := (((Bx.newAt ((w.alloc (.cells #[.bool f.h, vi ki f.fr, vi ki f.off, vi ki f.A.m, vi ki f.A.k, vi ki f.A.d, vi ki f.A.n, vi ki f.A.s, .int .u8 f.A.z, vi ki f.A.v, .string f.A.t, vi ki f.B.m, vi ki f.B.k, vi ki f.B.d, vi ki f.B.n, vi ki f.B.s, .int .u8 f.B.z, vi ki f.B.v, .string f.B.t] 42)).alloc (.cells #[vi ki t] 2)) (z4) _ _ (by simp)).alloc _).alloc _)
 have X3 : Hid (Bx (((((w.alloc (.cells #[.bool f.h, vi ki f.fr, vi ki f.off, vi ki f.A.m, vi ki f.A.k, vi ki f.A.d, vi ki f.A.n, vi ki f.A.s, .int .u8 f.A.z, vi ki f.A.v, .string f.A.t, vi ki f.B.m, vi ki f.B.k, vi ki f.B.d, vi ki f.B.n, vi ki f.B.s, .int .u8 f.B.z, vi ki f.B.v, .string f.B.t] 42)).alloc (.cells #[vi ki t] 2)).alloc (.cells #[vi ki 0, vi ki 0, .bool false, .string ⟨#[]⟩] 23)).alloc (.cells #[vi ki 0, vi ki 0, .bool false, .string ⟨#[]⟩] 23)).alloc (.cells #[vi ki 0] 46)) (w.heap.size + 3) (z4)) := ((Bx.newAt (((w.alloc (.cells #[.bool f.h, vi ki f.fr, vi ki f.off, vi ki f.A.m, vi ki f.A.k, vi ki f.A.d, vi ki f.A.n, vi ki f.A.s, .int .u8 f.A.z, vi ki f.A.v, .string f.A.t, vi ki f.B.m, vi ki f.B.k, vi ki f.B.d, vi ki f.B.n, vi ki f.B.s, .int .u8 f.B.z, vi ki f.B.v, .string f.B.t] 42)).alloc (.cells #[vi ki t] 2)).alloc (.cells #[vi ki 0, vi ki 0, .bool false, .string ⟨#[]⟩] 23)) (z4) _ _ (by simp)).alloc _)
 have X4 : Hid (Bx (((((w.alloc (.cells #[.bool f.h, vi ki f.fr, vi ki f.off, vi ki f.A.m, vi ki f.A.k, vi ki f.A.d, vi ki f.A.n, vi ki f.A.s, .int .u8 f.A.z, vi ki f.A.v, .string f.A.t, vi ki f.B.m, vi ki f.B.k, vi ki f.B.d, vi ki f.B.n, vi ki f.B.s, .int .u8 f.B.z, vi ki f.B.v, .string f.B.t] 42)).alloc (.cells #[vi ki t] 2)).alloc (.cells #[vi ki 0, vi ki 0, .bool false, .string ⟨#[]⟩] 23)).alloc (.cells #[vi ki 0, vi ki 0, .bool false, .string ⟨#[]⟩] 23)).alloc (.cells #[vi ki 0] 46)) (w.heap.size + 4) ([vi ki 0])) := (Bx.newAt ((((w.alloc (.cells #[.bool f.h, vi ki f.fr, vi ki f.off, vi ki f.A.m, vi ki f.A.k, vi ki f.A.d, vi ki f.A.n, vi ki f.A.s, .int .u8 f.A.z, vi ki f.A.v, .string f.A.t, vi ki f.B.m, vi ki f.B.k, vi ki f.B.d, vi ki f.B.n, vi ki f.B.s, .int .u8 f.B.z, vi ki f.B.v, .string f.B.t] 42)).alloc (.cells #[vi ki t] 2)).alloc (.cells #[vi ki 0, vi ki 0, .bool false, .string ⟨#[]⟩] 23)).alloc (.cells #[vi ki 0, vi ki 0, .bool false, .string ⟨#[]⟩] 23)) ([vi ki 0]) _ _ (by simp))
 have L1 : Hid (Cvl.Lens (((((w.alloc (.cells #[.bool f.h, vi ki f.fr, vi ki f.off, vi ki f.A.m, vi ki f.A.k, vi ki f.A.d, vi ki f.A.n, vi ki f.A.s, .int .u8 f.A.z, vi ki f.A.v, .string f.A.t, vi ki f.B.m, vi ki f.B.k, vi ki f.B.d, vi ki f.B.n, vi ki f.B.s, .int .u8 f.B.z, vi ki f.B.v, .string f.B.t] 42)).alloc (.cells #[vi ki t] 2)).alloc (.cells #[vi ki 0, vi ki 0, .bool false, .string ⟨#[]⟩] 23)).alloc (.cells #[vi ki 0, vi ki 0, .bool false, .string ⟨#[]⟩] 23)).alloc (.cells #[vi ki 0] 46))) := Lens_below hL0.out HB.out (Lens_lt hL0.out)
 have T1 : Hid (Clk.Tab (((((w.alloc (.cells #[.bool f.h, vi ki f.fr, vi ki f.off, vi ki f.A.m, vi ki f.A.k, vi ki f.A.d, vi ki f.A.n, vi ki f.A.s, .int .u8 f.A.z, vi ki f.A.v, .string f.A.t, vi ki f.B.m, vi ki f.B.k, vi ki f.B.d, vi ki f.B.n, vi ki f.B.s, .int .u8 f.B.z, vi ki f.B.v, .string f.B.t] 42)).alloc (.cells #[vi ki t] 2)).alloc (.cells #[vi ki 0, vi ki 0, .bool false, .string ⟨#[]⟩] 23)).alloc (.cells #[vi ki 0, vi ki 0, .bool false, .string ⟨#[]⟩] 23)).alloc (.cells #[vi ki 0] 46))) := hT0.out.below HB.out
 have CA : Hid (Calls Tryz.prog 199 #[.agg #[.bool f.h, vi ki f.fr, vi ki f.off, vi ki f.A.m, vi ki f.A.k, vi ki f.A.d, vi ki f.A.n, vi ki f.A.s, .int .u8 f.A.z, vi ki f.A.v, .string f.A.t, vi ki f.B.m, vi ki f.B.k, vi ki f.B.d, vi ki f.B.n, vi ki f.B.s, .int .u8 f.B.z, vi ki f.B.v, .string f.B.t]] (((((w.alloc (.cells #[.bool f.h, vi ki f.fr, vi ki f.off, vi ki f.A.m, vi ki f.A.k, vi ki f.A.d, vi ki f.A.n, vi ki f.A.s, .int .u8 f.A.z, vi ki f.A.v, .string f.A.t, vi ki f.B.m, vi ki f.B.k, vi ki f.B.d, vi ki f.B.n, vi ki f.B.s, .int .u8 f.B.z, vi ki f.B.v, .string f.B.t] 42)).alloc (.cells #[vi ki t] 2)).alloc (.cells #[vi ki 0, vi ki 0, .bool false, .string ⟨#[]⟩] 23)).alloc (.cells #[vi ki 0, vi ki 0, .bool false, .string ⟨#[]⟩] 23)).alloc (.cells #[vi ki 0] 46)) fun e w' => e = zr (.bool true) ∧ Below (((((w.alloc (.cells #[.bool f.h, vi ki f.fr, vi ki f.off, vi ki f.A.m, vi ki f.A.k, vi ki f.A.d, vi ki f.A.n, vi ki f.A.s, .int .u8 f.A.z, vi ki f.A.v, .string f.A.t, vi ki f.B.m, vi ki f.B.k, vi ki f.B.d, vi ki f.B.n, vi ki f.B.s, .int .u8 f.B.z, vi ki f.B.v, .string f.B.t] 42)).alloc (.cells #[vi ki t] 2)).alloc (.cells #[vi ki 0, vi ki 0, .bool false, .string ⟨#[]⟩] 23)).alloc (.cells #[vi ki 0, vi ki 0, .bool false, .string ⟨#[]⟩] 23)).alloc (.cells #[vi ki 0] 46)).heap.size (((((w.alloc (.cells #[.bool f.h, vi ki f.fr, vi ki f.off, vi ki f.A.m, vi ki f.A.k, vi ki f.A.d, vi ki f.A.n, vi ki f.A.s, .int .u8 f.A.z, vi ki f.A.v, .string f.A.t, vi ki f.B.m, vi ki f.B.k, vi ki f.B.d, vi ki f.B.n, vi ki f.B.s, .int .u8 f.B.z, vi ki f.B.v, .string f.B.t] 42)).alloc (.cells #[vi ki t] 2)).alloc (.cells #[vi ki 0, vi ki 0, .bool false, .string ⟨#[]⟩] 23)).alloc (.cells #[vi ki 0, vi ki 0, .bool false, .string ⟨#[]⟩] 23)).alloc (.cells #[vi ki 0] 46)) w') := by
  have R := can_any f (((((w.alloc (.cells #[.bool f.h, vi ki f.fr, vi ki f.off, vi ki f.A.m, vi ki f.A.k, vi ki f.A.d, vi ki f.A.n, vi ki f.A.s, .int .u8 f.A.z, vi ki f.A.v, .string f.A.t, vi ki f.B.m, vi ki f.B.k, vi ki f.B.d, vi ki f.B.n, vi ki f.B.s, .int .u8 f.B.z, vi ki f.B.v, .string f.B.t] 42)).alloc (.cells #[vi ki t] 2)).alloc (.cells #[vi ki 0, vi ki 0, .bool false, .string ⟨#[]⟩] 23)).alloc (.cells #[vi ki 0, vi ki 0, .bool false, .string ⟨#[]⟩] 23)).alloc (.cells #[vi ki 0] 46)) L1.out T1.out
  rw [hf] at R
  exact R
 have h1 : ¬ y < -4714 := by omega
 have h2 : ¬ 294278 < y := by omega
 refine (callsIn_wide (n := 3)).1 ?_
 refine callsIn_of_wp_marks Tryz.func168 rfl trivial ?_ rfl
 simp only [Tryz.ntmps168, List.size_toArray, List.length_cons, List.length_nil, Nat.reduceAdd, Nat.reduceSub, Array.replicate_succ, Array.replicate_zero, List.push_toArray, List.append_toArray, List.nil_append, List.cons_append]
 gi_wp2_with (first | (refine wpListIn_load_mid rfl 42 _ rfl w.heap.size 0 rfl [.bool f.h, vi ki f.fr, vi ki f.off, vi ki f.A.m, vi ki f.A.k, vi ki f.A.d, vi ki f.A.n, vi ki f.A.s, .int .u8 f.A.z, vi ki f.A.v, .string f.A.t, vi ki f.B.m, vi ki f.B.k, vi ki f.B.d, vi ki f.B.n, vi ki f.B.s, .int .u8 f.B.z, vi ki f.B.v, .string f.B.t] _ X0.out.all Tryz.underlying42 rfl (by kernel_rfl) ?_) | fail)
 refine ⟨trivial, (callsIn_wide.2 CA.out).mono ?_⟩
 rintro e w1 ⟨rfl, hb⟩
 have HB1 : Hid (Below w.heap.size w w1) := HB.out.trans (hb.mono HB.out.size)
 have Y0 : Hid (Bx w1 w.heap.size [.bool f.h, vi ki f.fr, vi ki f.off, vi ki f.A.m, vi ki f.A.k, vi ki f.A.d, vi ki f.A.n, vi ki f.A.s, .int .u8 f.A.z, vi ki f.A.v, .string f.A.t, vi ki f.B.m, vi ki f.B.k, vi ki f.B.d, vi ki f.B.n, vi ki f.B.s, .int .u8 f.B.z, vi ki f.B.v, .string f.B.t]) := X0.out.below hb
 have Y1 : Hid (Bx w1 (w.heap.size + 1) [vi ki t]) := X1.out.below hb
 have Y2 : Hid (Bx w1 (w.heap.size + 1 + 1) z4) := X2.out.below hb
 have Y3 : Hid (Bx w1 (w.heap.size + 1 + 1 + 1) z4) := X3.out.below hb
 have Y4 : Hid (Bx w1 (w.heap.size + 1 + 1 + 1 + 1) [vi ki 0]) := X4.out.below hb
 have L2 : Hid (Cvl.Lens w1) := bel_lens HB1.out hL0.out
 have ct := Y1.out.c 0 rfl
 clear hb HB X0 X1 X2 X3 X4 CA L1 T1
 gi_wp2_with fail
 refine ⟨trivial, (callsIn_wide.2 (yat_any t y hy t1 t2 _ L2.out)).mono ?_⟩
 rintro e w9 ⟨rfl, rfl⟩
 have Z0 : Hid (Bx (w9.alloc (.cells #[vi ki 0, vi ki 0, .bool false, .string ⟨#[]⟩] 23)) w.heap.size [.bool f.h, vi ki f.fr, vi ki f.off, vi ki f.A.m, vi ki f.A.k, vi ki f.A.d, vi ki f.A.n, vi ki f.A.s, .int .u8 f.A.z, vi ki f.A.v, .string f.A.t, vi ki f.B.m, vi ki f.B.k, vi ki f.B.d, vi ki f.B.n, vi ki f.B.s, .int .u8 f.B.z, vi ki f.B.v, .string f.B.t]) := Y0.out.alloc _
 gi_wp2_with (first | (refine wpListIn_load_mid rfl 42 _ rfl w.heap.size 0 rfl [.bool f.h, vi ki f.fr, vi ki f.off, vi ki f.A.m, vi ki f.A.k, vi ki f.A.d, vi ki f.A.n, vi ki f.A.s, .int .u8 f.A.z, vi ki f.A.v, .string f.A.t, vi ki f.B.m, vi ki f.B.k, vi ki f.B.d, vi ki f.B.n, vi ki f.B.s, .int .u8 f.B.z, vi ki f.B.v, .string f.B.t] _ Z0.out.all Tryz.underlying42 rfl (by kernel_rfl) ?_) | fail)
 refine ⟨trivial, (callsIn_wide.2 (begin_any f _)).mono ?_⟩
 rintro e w2 ⟨rfl, hM, hb⟩
 rw [World.size_alloc] at hM hb ⊢
 gi_wp2_with fail
 refine ⟨trivial, (callsIn_wide.2 (shifts_any f (w9.heap.size + 1 + 2) (y - 1) (y + 1) _)).mono ?_⟩
 rintro e w3 ⟨rfl, rfl⟩
 gi_wp2_with fail
 have hm2 : w9.heap.size + 1 + 2 < w2.heap.size := by obtain ⟨es, c, hq, _⟩ := hM; exact (Array.getElem?_eq_some_iff.1 hq).1
 obtain ⟨m, hm⟩ : ∃ m, w9.heap.size + 1 + 2 = m := ⟨_, rfl⟩
 rw [hm] at hM hm2 ⊢
 have ba : Below w9.heap.size w9 (w9.alloc (.cells #[vi ki 0, vi ki 0, .bool false, .string ⟨#[]⟩] 23)) := (Below.refl _ _).alloc (Nat.le_refl _) _
 have b92 : Below w9.heap.size w9 w2 := ba.trans (hb.mono (by simp))
 have b12 : Below w.heap.size w w2 := HB1.out.trans (b92.mono HB1.out.size)
 have I0 : AR w f t y K w9.heap.size 0 w2 := ⟨by omega, Y1.out.below b92, Y2.out.below b92, Y3.out.below b92, Y4.out.below b92, (Bx.new w9 z4 23).below (by rw [World.size_alloc]; exact hb), b12⟩
 have L3 := bel_lens b12 hL0.out
 refine gen_codeIn (fun V => ItS f m (w2.heap.size + 1) (w2.heap.size + 2) w2.heap.size (y - 1) (y + 1) V ∧ AR w f t y K w9.heap.size 0 V ∧ w2.heap.size + 3 ≤ V.heap.size) ⟨?_, ((I0.alloc _).alloc _).alloc _, by simp⟩ ?_
 ·have lb : Below w2.heap.size w2 ((((w2.alloc (.cells #[.bool f.h, vi ki f.fr, vi ki f.off, vi ki f.A.m, vi ki f.A.k, vi ki f.A.d, vi ki f.A.n, vi ki f.A.s, .int .u8 f.A.z, vi ki f.A.v, .string f.A.t, vi ki f.B.m, vi ki f.B.k, vi ki f.B.d, vi ki f.B.n, vi ki f.B.s, .int .u8 f.B.z, vi ki f.B.v, .string f.B.t, .map (some m)] 229))).alloc (.cells #[vi ki (y - 1)] 2)).alloc (.cells #[vi ki (y + 1)] 2)) := (((Below.refl _ w2).alloc (Nat.le_refl _) _).alloc (by simp) _).alloc (by simp; omega) _
  exact ⟨((Bx.newAt (w2.alloc (.cells #[.bool f.h, vi ki f.fr, vi ki f.off, vi ki f.A.m, vi ki f.A.k, vi ki f.A.d, vi ki f.A.n, vi ki f.A.s, .int .u8 f.A.z, vi ki f.A.v, .string f.A.t, vi ki f.B.m, vi ki f.B.k, vi ki f.B.d, vi ki f.B.n, vi ki f.B.s, .int .u8 f.B.z, vi ki f.B.v, .string f.B.t, .map (some m)] 229)) [vi ki (y - 1)] 2 _ (by simp)).alloc _).c 0 rfl, (Bx.newAt ((w2.alloc (.cells #[.bool f.h, vi ki f.fr, vi ki f.off, vi ki f.A.m, vi ki f.A.k, vi ki f.A.d, vi ki f.A.n, vi ki f.A.s, .int .u8 f.A.z, vi ki f.A.v, .string f.A.t, vi ki f.B.m, vi ki f.B.k, vi ki f.B.d, vi ki f.B.n, vi ki f.B.s, .int .u8 f.B.z, vi ki f.B.v, .string f.B.t, .map (some m)] 229)).alloc (.cells #[vi ki (y - 1)] 2)) [vi ki (y + 1)] 2 _ (by simp)).c 0 rfl,
   ((Bx.new w2 (cL f m) _).alloc _).alloc _, hM.same (lb.block m hm2), Lens_below L3 lb (Lens_lt L3), by first | (simp; done) | (simp; omega), by first | (simp; done) | (simp; omega), by omega, by omega, by omega⟩
 have hw4 : w.heap.size + 5 ≤ w9.heap.size := by have := Y4.out.1; omega
 rintro W0 ⟨IS, J0, hsz⟩
 clear hM L3 b12 b92 ba hb Y0 Y1 Y2 Y3 Y4 Z0 I0 L2 HB1 ct
 refine rangeM rfl (by decide) (gf := 219) (lb := #[.pointer (some ⟨w2.heap.size + 1, 0, none⟩), .pointer (some ⟨w2.heap.size + 2, 0, none⟩), .pointer (some ⟨w2.heap.size, 0, none⟩)]) rfl trivial (enters_of Tryz.func219 (by kernel_rfl) rfl)
  (it_seq f hf m (w2.heap.size + 1) (w2.heap.size + 2) w2.heap.size _ (y - 1) (y + 1) 3 (by omega) (by omega) (by omega) (by omega) W0 IS)
  (by omega) (by intro k hk; simp at hk; have := Lens_lt IS.ln; omega) rfl
  (fun k W => AR w f t y K w9.heap.size k W)
  (fun c k W => c = .ret ∧ AX w f y K W) ?hI ?hIx J0
  (fun k a' W => ∃ bx, W0.heap.size ≤ bx ∧ Bx W bx (tL (shK f (y - 1) k)) ∧ a' = { tmps := #[.agg #[.bool f.h, vi ki f.fr, vi ki f.off, vi ki f.A.m, vi ki f.A.k, vi ki f.A.d, vi ki f.A.n, vi ki f.A.s, .int .u8 f.A.z, vi ki f.A.v, .string f.A.t, vi ki f.B.m, vi ki f.B.k, vi ki f.B.d, vi ki f.B.n, vi ki f.B.s, .int .u8 f.B.z, vi ki f.B.v, .string f.B.t], vi ki t, .pointer (some ⟨w.heap.size, 0, none⟩), .pointer (some ⟨w.heap.size + 1, 0, none⟩), .pointer (some ⟨w.heap.size + 1 + 1, 0, none⟩), .pointer (some ⟨w.heap.size + 1 + 1 + 1, 0, none⟩), .pointer (some ⟨w.heap.size + 1 + 1 + 1 + 1, 0, none⟩), vi ki y, .pointer (some ⟨w9.heap.size, 0, none⟩), .pointer (some ⟨bx, 0, none⟩), .agg #[.bool f.h, vi ki f.fr, vi ki f.off, vi ki f.A.m, vi ki f.A.k, vi ki f.A.d, vi ki f.A.n, vi ki f.A.s, .int .u8 f.A.z, vi ki f.A.v, .string f.A.t, vi ki f.B.m, vi ki f.B.k, vi ki f.B.d, vi ki f.B.n, vi ki f.B.s, .int .u8 f.B.z, vi ki f.B.v, .string f.B.t], .bool true, .bool false, undef, undef, vi ki t, vi ki y, vi ki y, .bool (decide (y < -4714)), .bool (decide (y < -4714)), vi ki y, .bool (decide (294278 < y)), .bool (decide (y < -4714) || decide (294278 < y)), undef, undef, .agg #[.bool f.h, vi ki f.fr, vi ki f.off, vi ki f.A.m, vi ki f.A.k, vi ki f.A.d, vi ki f.A.n, vi ki f.A.s, .int .u8 f.A.z, vi ki f.A.v, .string f.A.t, vi ki f.B.m, vi ki f.B.k, vi ki f.B.d, vi ki f.B.n, vi ki f.B.s, .int .u8 f.B.z, vi ki f.B.v, .string f.B.t], .agg (cL f m).toArray, vi ki y, vi ki (y - 1), vi ki y, vi ki (y + 1), .func (.func 219) #[] #[.pointer (some ⟨w2.heap.size + 1, 0, none⟩), .pointer (some ⟨w2.heap.size + 2, 0, none⟩), .pointer (some ⟨w2.heap.size, 0, none⟩)], .agg #[vi ki (shK f (y - 1) k).t, vi ki (shK f (y - 1) k).o, .bool (shK f (y - 1) k).d, .string (shK f (y - 1) k).a], undef, undef, undef, undef, undef, undef, undef, undef, undef], defers := [] })
  ?hAx ?assign ?body ?done ?stop
 case hI => exact fun k A B row h hg hrow => h.grown hg (fun r e => by rcases hrow r e with q | ⟨q, _⟩ <;> omega)
 case hIx => exact fun c k A B row h hg hrow => ⟨h.1, h.2.grown hg (fun r e => by rcases hrow r e with q | ⟨q, _⟩ <;> omega)⟩
 case hAx =>
  rintro k a' W l o o' ⟨bx, h1, h2, h3⟩ hl ho hc
  refine ⟨bx, h1, h2.same (by simp) (World.putObj_heap_other (fun e => ?_)), h3⟩
  subst e
  have := (h2.2 0 _ rfl).1
  simp [World.cell?, ho] at this
  cases o <;> simp_all [Obj.isCells]
 case assign =>
  rintro l k W K' hI hlt hK
  simp only [tL]
  gi_wp2
  exact hK _ _ ((KeepsOthers.alloc _ _).from _) ⟨by simp, fun q hq => Below.heap_alloc _ _ _ (by simp at hq; have := Lens_lt IS.ln; omega)⟩ (hI.alloc _) ⟨W.heap.size, by omega, Bx.new W (tL (shK f (y - 1) k)) _, rfl⟩
 case body =>
  rintro l k a' W hI ⟨bx, hx1, hx2, rfl⟩ hk hlt
  have ct := hI.at_.c 0 rfl
  have x0 := hx2.c 0 rfl
  have x1 := hx2.c 1 rfl
  have x2 := hx2.c 2 rfl
  have x3 := hx2.c 3 rfl
  by_cases hkK : k < K
  ·have hle : ¬ t < (shK f (y - 1) k).t := by have := hlo k hkK; omega
   have hs : W.there w9.heap.size 0 4 := by have := hI.last.there; rwa [lastK_len] at this
   gi_wp2_with (first | (refine wpListIn_store_mid rfl 23 _ _ rfl w9.heap.size 0 #[vi ki (shK f (y - 1) k).t, vi ki (shK f (y - 1) k).o, .bool (shK f (y - 1) k).d, .string (shK f (y - 1) k).a] rfl rfl hs (by kernel_rfl) (tL_one (shK f (y - 1) k)) ?_; refine gen_listIn (fun V => KeepsFrom W0.heap.size W V ∧ Kept [w2.heap.size + 1, w2.heap.size + 2, w2.heap.size, m, 1] W V ∧ AR w f t y K w9.heap.size (k + 1) V) ⟨(keeps_setCells _ _ _ _).from _, ⟨by rw [setCells_size]; exact Nat.le_refl _, fun q hq => setCells_heap _ _ _ _ _ (by simp at hq; have := Lens_lt hL0.out; omega)⟩, hI.told hkK (by omega)⟩ ?_; rintro V ⟨q1, q2, q3⟩) | fail)
   exact ⟨q1, q2, q3⟩
  ·obtain rfl : k = K := by have := hI.le; omega
   have hl : lastK f y k = tL (shK f (y - 1) (k - 1)) := by unfold lastK; rw [if_neg (by omega)]
   have D0 : DS w w9.heap.size bx W0.heap.size W (shK f (y - 1) (k - 1)) (shK f (y - 1) k) z4 z4 W.drew := ⟨hl ▸ hI.last, hx2, hI.r1, hI.r2, hI.r3, hI.bel.drew, (KeepsOthers.drew W).from _, by omega, by omega⟩
   gi_wp2
   refine wpIn_region_any (by kernel_rfl) ?_
   refine gen_anyIn (DS w w9.heap.size bx W0.heap.size W (shK f (y - 1) (k - 1)) (shK f (y - 1) k) z4 z4) D0 ?_
   clear D0 hI x0 x1 x2 x3 ct hx2 hl
   rintro V0 hD
   refine wpAnyIn_ready (rs := [0, 1]) (by kernel_rfl) (by simp) (AllReadyIn.cons (o := ⟨some 37, _, _, _, _, none⟩) rfl (fun K' hK' => ?_) (AllReadyIn.cons (o := ⟨some 38, _, _, _, _, none⟩) rfl (fun K' hK' => ?_) AllReadyIn.nil))
   ·
    refine (if_pos (by kernel_rfl)).mpr (operIn_load_mid 23 _ rfl w9.heap.size 0 rfl (tL (shK f (y - 1) (k - 1))) _ hD.last.all Tryz.underlying23 rfl (by kernel_rfl) (hK' _ _ ?_))
    simp only [za, zb, zc, zd]
    refine wpAnyIn_ready (rs := [1, 2]) (by kernel_rfl) (by simp) (AllReadyIn.cons (o := ⟨some 38, _, _, _, _, none⟩) rfl (fun K' hK' => ?_) (AllReadyIn.cons (o := ⟨none, _, _, _, _, none⟩) rfl (fun K' hK' => ?_) AllReadyIn.nil))
    ·
     refine (if_pos (by kernel_rfl)).mpr (operIn_load_mid 23 _ rfl bx 0 rfl (tL (shK f (y - 1) k)) _ hD.cur.all Tryz.underlying23 rfl (by kernel_rfl) (hK' _ _ ?_))
     simp only [za, zb, zc, zd]
     refine wpAnyIn_ready (rs := [2]) (by kernel_rfl) (by simp) (AllReadyIn.cons (o := ⟨none, _, _, _, _, none⟩) rfl (fun K' hK' => ?_) AllReadyIn.nil)
     refine (if_pos (by kernel_rfl)).mpr (operIn_store_mid 23 _ _ rfl (w.heap.size + 1 + 1) 0 (tL (shK f (y - 1) (k - 1))).toArray rfl rfl hD.r1.there (by kernel_rfl) (tL_one _) (hK' _ _ ?_))
     refine gen_anyIn (DS w w9.heap.size bx W0.heap.size W (shK f (y - 1) (k - 1)) (shK f (y - 1) k) (tL (shK f (y - 1) (k - 1))) z4) (hD.s2 rfl) ?_
     clear hD hK'
     rintro V1 hD
     refine wpAnyIn_ready (rs := [3]) (by kernel_rfl) (by simp) (AllReadyIn.cons (o := ⟨none, _, _, _, _, none⟩) rfl (fun K' hK' => ?_) AllReadyIn.nil)
     refine (if_pos (by kernel_rfl)).mpr (operIn_store_mid 23 _ _ rfl (w.heap.size + 1 + 1 + 1) 0 (tL (shK f (y - 1) k)).toArray rfl rfl hD.r2.there (by kernel_rfl) (tL_one _) (hK' _ _ ?_))
     refine gen_anyIn (DS w w9.heap.size bx W0.heap.size W (shK f (y - 1) (k - 1)) (shK f (y - 1) k) (tL (shK f (y - 1) (k - 1))) (tL (shK f (y - 1) k))) (hD.s3 rfl) ?_
     clear hD hK'
     rintro V2 hD
     refine wpAnyIn_ready (rs := [4]) (by kernel_rfl) (by simp) (AllReadyIn.cons (o := ⟨none, _, _, _, _, none⟩) rfl (fun K' hK' => ?_) AllReadyIn.nil)
     refine (if_pos (by kernel_rfl)).mpr (operIn_store1 46 _ _ rfl (w.heap.size + 1 + 1 + 1 + 1) .i64 0 rfl rfl hD.r3.there (by kernel_rfl) (hK' _ _ ?_))
     refine gen_anyIn (DS w w9.heap.size bx W0.heap.size W (shK f (y - 1) (k - 1)) (shK f (y - 1) k) (tL (shK f (y - 1) (k - 1))) (tL (shK f (y - 1) k))) (hD.s4) ?_
     clear hD hK'
     rintro V3 hD
     refine wpAnyIn_done (by kernel_rfl) ?_ _
     gi_wp2
     exact ⟨hD.kf, rfl, hD.r1, hD.r2, hD.r3, hD.bel⟩
    ·
     refine (if_pos (by kernel_rfl)).mpr (operIn_store_mid 23 _ _ rfl (w.heap.size + 1 + 1) 0 (tL (shK f (y - 1) (k - 1))).toArray rfl rfl hD.r1.there (by kernel_rfl) (tL_one _) (hK' _ _ ?_))
     refine gen_anyIn (DS w w9.heap.size bx W0.heap.size W (shK f (y - 1) (k - 1)) (shK f (y - 1) k) (tL (shK f (y - 1) (k - 1))) z4) (hD.s2 rfl) ?_
     clear hD hK'
     rintro V4 hD
     refine wpAnyIn_ready (rs := [1]) (by kernel_rfl) (by simp) (AllReadyIn.cons (o := ⟨some 38, _, _, _, _, none⟩) rfl (fun K' hK' => ?_) AllReadyIn.nil)
     refine (if_pos (by kernel_rfl)).mpr (operIn_load_mid 23 _ rfl bx 0 rfl (tL (shK f (y - 1) k)) _ hD.cur.all Tryz.underlying23 rfl (by kernel_rfl) (hK' _ _ ?_))
     simp only [za, zb, zc, zd]
     refine wpAnyIn_ready (rs := [3]) (by kernel_rfl) (by simp) (AllReadyIn.cons (o := ⟨none, _, _, _, _, none⟩) rfl (fun K' hK' => ?_) AllReadyIn.nil)
     refine (if_pos (by kernel_rfl)).mpr (operIn_store_mid 23 _ _ rfl (w.heap.size + 1 + 1 + 1) 0 (tL (shK f (y - 1) k)).toArray rfl rfl hD.r2.there (by kernel_rfl) (tL_one _) (hK' _ _ ?_))
     refine gen_anyIn (DS w w9.heap.size bx W0.heap.size W (shK f (y - 1) (k - 1)) (shK f (y - 1) k) (tL (shK f (y - 1) (k - 1))) (tL (shK f (y - 1) k))) (hD.s3 rfl) ?_
     clear hD hK'
     rintro V5 hD
     refine wpAnyIn_ready (rs := [4]) (by kernel_rfl) (by simp) (AllReadyIn.cons (o := ⟨none, _, _, _, _, none⟩) rfl (fun K' hK' => ?_) AllReadyIn.nil)
     refine (if_pos (by kernel_rfl)).mpr (operIn_store1 46 _ _ rfl (w.heap.size + 1 + 1 + 1 + 1) .i64 0 rfl rfl hD.r3.there (by kernel_rfl) (hK' _ _ ?_))
     refine gen_anyIn (DS w w9.heap.size bx W0.heap.size W (shK f (y - 1) (k - 1)) (shK f (y - 1) k) (tL (shK f (y - 1) (k - 1))) (tL (shK f (y - 1) k))) (hD.s4) ?_
     clear hD hK'
     rintro V6 hD
     refine wpAnyIn_done (by kernel_rfl) ?_ _
     gi_wp2
     exact ⟨hD.kf, rfl, hD.r1, hD.r2, hD.r3, hD.bel⟩
   ·
    refine (if_pos (by kernel_rfl)).mpr (operIn_load_mid 23 _ rfl bx 0 rfl (tL (shK f (y - 1) k)) _ hD.cur.all Tryz.underlying23 rfl (by kernel_rfl) (hK' _ _ ?_))
    simp only [za, zb, zc, zd]
    refine wpAnyIn_ready (rs := [0]) (by kernel_rfl) (by simp) (AllReadyIn.cons (o := ⟨some 37, _, _, _, _, none⟩) rfl (fun K' hK' => ?_) AllReadyIn.nil)
    refine (if_pos (by kernel_rfl)).mpr (operIn_load_mid 23 _ rfl w9.heap.size 0 rfl (tL (shK f (y - 1) (k - 1))) _ hD.last.all Tryz.underlying23 rfl (by kernel_rfl) (hK' _ _ ?_))
    simp only [za, zb, zc, zd]
    refine wpAnyIn_ready (rs := [2]) (by kernel_rfl) (by simp) (AllReadyIn.cons (o := ⟨none, _, _, _, _, none⟩) rfl (fun K' hK' => ?_) AllReadyIn.nil)
    refine (if_pos (by kernel_rfl)).mpr (operIn_store_mid 23 _ _ rfl (w.heap.size + 1 + 1) 0 (tL (shK f (y - 1) (k - 1))).toArray rfl rfl hD.r1.there (by kernel_rfl) (tL_one _) (hK' _ _ ?_))
    refine gen_anyIn (DS w w9.heap.size bx W0.heap.size W (shK f (y - 1) (k - 1)) (shK f (y - 1) k) (tL (shK f (y - 1) (k - 1))) z4) (hD.s2 rfl) ?_
    clear hD hK'
    rintro V7 hD
    refine wpAnyIn_ready (rs := [3]) (by kernel_rfl) (by simp) (AllReadyIn.cons (o := ⟨none, _, _, _, _, none⟩) rfl (fun K' hK' => ?_) AllReadyIn.nil)
    refine (if_pos (by kernel_rfl)).mpr (operIn_store_mid 23 _ _ rfl (w.heap.size + 1 + 1 + 1) 0 (tL (shK f (y - 1) k)).toArray rfl rfl hD.r2.there (by kernel_rfl) (tL_one _) (hK' _ _ ?_))
    refine gen_anyIn (DS w w9.heap.size bx W0.heap.size W (shK f (y - 1) (k - 1)) (shK f (y - 1) k) (tL (shK f (y - 1) (k - 1))) (tL (shK f (y - 1) k))) (hD.s3 rfl) ?_
    clear hD hK'
    rintro V8 hD
    refine wpAnyIn_ready (rs := [4]) (by kernel_rfl) (by simp) (AllReadyIn.cons (o := ⟨none, _, _, _, _, none⟩) rfl (fun K' hK' => ?_) AllReadyIn.nil)
    refine (if_pos (by kernel_rfl)).mpr (operIn_store1 46 _ _ rfl (w.heap.size + 1 + 1 + 1 + 1) .i64 0 rfl rfl hD.r3.there (by kernel_rfl) (hK' _ _ ?_))
    refine gen_anyIn (DS w w9.heap.size bx W0.heap.size W (shK f (y - 1) (k - 1)) (shK f (y - 1) k) (tL (shK f (y - 1) (k - 1))) (tL (shK f (y - 1) k))) (hD.s4) ?_
    clear hD hK'
    rintro V9 hD
    refine wpAnyIn_done (by kernel_rfl) ?_ _
    gi_wp2
    exact ⟨hD.kf, rfl, hD.r1, hD.r2, hD.r3, hD.bel⟩
 case done =>
  rintro D W hD hI hK'
  exact absurd hI.le (by omega)
 case stop =>
  rintro D c k W hD hk ⟨rfl, hX⟩ hK'
  gi_wp2
  refine ⟨by simp, .inl ⟨_, _, rfl, run_takeDeferred hK', ?_⟩⟩
  have hX2 := hX.grown (grownBy_putObj' W D (.deferred none)) (fun r e => by cases e; omega)
  refine ⟨_, results_cell3 rfl _ _ _ _ _ _ _ _ rfl rfl rfl (run_loadVar_mid _ _ _ _ _ _ hX2.r1.all Tryz.underlying23 rfl (by kernel_rfl)) (run_loadVar_mid _ _ _ _ _ _ hX2.r2.all Tryz.underlying23 rfl (by kernel_rfl)) (run_loadVar1 (hX2.r3.c 0 rfl) Tryz.underlying46), rfl, hX2.bel⟩
theorem results_cell_t {P : Program} {fn : Func} {p q : Tmp} {t1 : TypeId} (h : fn.results = #[.cell p t1, .tmp q]) (tmps : Array Value) (w : World) (a : Addr) (u v : Value) (hp : tmps[p]?.getD undef = .pointer (some a)) (hq : tmps[q]?.getD undef = v)
  (h1 : (loadVar t1 a).run P w = .ok u w) : (results fn tmps).run P w = .ok (.tuple #[u, v]) w := by
 simp [results, h, hp, hq, asAddr, h1]
theorem z4_one : z4.toArray.all (·.oneCell') = true := all_oneCell_toArray (by intro v hv; simp [z4] at hv; rcases hv with rfl | rfl | rfl | rfl <;> rfl)
theorem around_arg (f : Ft) (t : Int) (hf : okF f = false) (w : World) (hL0 : Hid (Cvl.Lens w)) (hT0 : Hid (Clk.Tab w)) :
  Calls Tryz.prog 168 #[.agg #[.bool f.h, vi ki f.fr, vi ki f.off, vi ki f.A.m, vi ki f.A.k, vi ki f.A.d, vi ki f.A.n, vi ki f.A.s, .int .u8 f.A.z, vi ki f.A.v, .string f.A.t, vi ki f.B.m, vi ki f.B.k, vi ki f.B.d, vi ki f.B.n, vi ki f.B.s, .int .u8 f.B.z, vi ki f.B.v, .string f.B.t], vi ki t] w fun e w' => e = zr (.tuple #[.agg z4.toArray, .agg z4.toArray, vi ki 1]) ∧ Below w.heap.size w w' := by
 have HB : Hid (Below w.heap.size w (((((w.alloc (.cells #[.bool f.h, vi ki f.fr, vi ki f.off, vi ki f.A.m, vi ki f.A.k, vi ki f.A.d, vi ki f.A.n, vi ki f.A.s, .int .u8 f.A.z, vi ki f.A.v, .string f.A.t, vi ki f.B.m, vi ki f.B.k, vi ki f.B.d, vi ki f.B.n, vi ki f.B.s, .int .u8 f.B.z, vi ki f.B.v, .string f.B.t] 42)).alloc (.cells #[vi ki t] 2)).alloc (.cells #[vi ki 0, vi ki 0, .bool false, .string ⟨#[]⟩] 23)).alloc (.cells #[vi ki 0, vi ki 0, .bool false, .string ⟨#[]⟩] 23)).alloc (.cells #[vi ki 0] 46))) := ((((((Below.refl _ _).alloc (by simp <;> omega) _).alloc (by simp <;> omega) _).alloc (by simp <;> omega) _).alloc (by simp <;> omega) _).alloc (by simp <;> omega) _)
 have X0 : Hid (Bx (((((w.alloc (.cells #[.bool f.h, vi ki f.fr, vi ki f.off, vi ki f.A.m, vi ki f.A.k, vi ki f.A.d, vi ki f.A.n, vi ki f.A.s, .int .u8 f.A.z, vi ki f.A.v, .string f.A.t, vi ki f.B.m, vi ki f.B.k, vi ki f.B.d, vi ki f.B.n, vi ki f.B.s, .int .u8 f.B.z, vi ki f.B.v, .string f.B.t] 42)).alloc (.cells #[vi ki t] 2)).alloc (.cells #[vi ki 0, vi ki 0, .bool false, .string ⟨#[]⟩] 23)).alloc (.cells #[vi ki 0, vi ki 0, .bool false, .string ⟨#[]⟩] 23)).alloc (.cells #[vi ki 0] 46)) (w.heap.size) (fL f)) := (((((Bx.newAt w (fL f) _ _ (by simp)).alloc _).alloc _).alloc _).alloc _)
 have X1 : Hid (Bx (((((w.alloc (.cells #[.bool f.h, vi ki f.fr, vi ki f.off, vi ki f.A.m, vi ki f.A.k, vi ki f.A.d, vi ki f.A.n, vi ki f.A.s, .int .u8 f.A.z, vi ki f.A.v, .string f.A.t, vi ki f.B.m, vi ki f.B.k, vi ki f.B.d, vi ki f.B.n, vi ki f.B.s, .int .u8 f.B.z, vi ki f.B.v, .string f.B.t] 42)).alloc (.cells #[vi ki t] 2)).alloc (.cells #[vi ki 0, vi ki 0, .bool false, .string ⟨#[]⟩] 23)).alloc (.cells #[vi ki 0, vi ki 0, .bool false, .string ⟨#[]⟩] 23)).alloc (.cells #[vi ki 0] 46)) (w.heap.size + 1) ([vi ki t])) := ((((Bx.newAt (w.alloc (.cells #[.bool f.h, vi ki f.fr, vi ki f.off, vi ki f.A.m, vi ki f.A.k, vi ki f.A.d, vi ki f.A.n, vi ki f.A.s, .int .u8 f.A.z, vi ki f.A.v, .string f.A.t, vi ki f.B.m, vi ki f.B.k, vi ki f.B.d, vi ki f.B.n, vi ki f.B.s, .int .u8 f.B.z, vi ki f.B.v, .string f.B.t] 42)) ([vi ki t]) _ _ (by simp)).alloc _).alloc _).alloc _)
 have X2 : Hid (Bx (((((w.alloc (.cells #[.bool f.h, vi ki f.fr, vi ki f.off, vi ki f.A.m, vi ki f.A.k, vi ki f.A.d, vi ki f.A.n, vi ki f.A.s, .int .u8 f.A.z, vi ki f.A.v, .string f.A.t, vi ki f.B.m, vi ki f.B.k, vi ki f.B.d, vi ki f.B.n, vi ki f.B.s, .int .u8 f.B.z, vi ki f.B.v, .string f.B.t] 42)).alloc (.cells #[vi ki t] 2)).alloc (.cells #[vi ki 0, vi ki 0, .bool false, .string ⟨#[]⟩] 23)).alloc (.cells #[vi ki 0, vi ki 0, .bool false, .string ⟨#[]⟩] 23)).alloc (.cells #[vi ki 0] 46)) (w.heap.size + 2) (z4)) := (((Bx.newAt ((w.alloc (.cells #[.bool f.h, vi ki f.fr, vi ki f.off, vi ki f.A.m, vi ki f.A.k, vi ki f.A.d, vi ki f.A.n, vi ki f.A.s, .int .u8 f.A.z, vi ki f.A.v, .string f.A.t, vi ki f.B.m, vi ki f.B.k, vi ki f.B.d, vi ki f.B.n, vi ki f.B.s, .int .u8 f.B.z, vi ki f.B.v, .string f.B.t] 42)).alloc (.cells #[vi ki t] 2)) (z4) _ _ (by simp)).alloc _).alloc _)
 have X3 : Hid (Bx (((((w.alloc (.cells #[.bool f.h, vi ki f.fr, vi ki f.off, vi ki f.A.m, vi ki f.A.k, vi ki f.A.d, vi ki f.A.n, vi ki f.A.s, .int .u8 f.A.z, vi ki f.A.v, .string f.A.t, vi ki f.B.m, vi ki f.B.k, vi ki f.B.d, vi ki f.B.n, vi ki f.B.s, .int .u8 f.B.z, vi ki f.B.v, .string f.B.t] 42)).alloc (.cells #[vi ki t] 2)).alloc (.cells #[vi ki 0, vi ki 0, .bool false, .string ⟨#[]⟩] 23)).alloc (.cells #[vi ki 0, vi ki 0, .bool false, .string ⟨#[]⟩] 23)).alloc (.cells #[vi ki 0] 46)) (w.heap.size + 3) (z4)) := ((Bx.newAt (((w.alloc (.cells #[.bool f.h, vi ki f.fr, vi ki f.off, vi ki f.A.m, vi ki f.A.k, vi ki f.A.d, vi ki f.A.n, vi ki f.A.s, .int .u8 f.A.z, vi ki f.A.v, .string f.A.t, vi ki f.B.m, vi ki f.B.k, vi ki f.B.d, vi ki f.B.n, vi ki f.B.s, .int .u8 f.B.z, vi ki f.B.v, .string f.B.t] 42)).alloc (.cells #[vi ki t] 2)).alloc (.cells #[vi ki 0, vi ki 0, .bool false, .string ⟨#[]⟩] 23)) (z4) _ _ (by simp)).alloc _)
 have X4 : Hid (Bx (((((w.alloc (.cells #[.bool f.h, vi ki f.fr, vi ki f.off, vi ki f.A.m, vi ki f.A.k, vi ki f.A.d, vi ki f.A.n, vi ki f.A.s, .int .u8 f.A.z, vi ki f.A.v, .string f.A.t, vi ki f.B.m, vi ki f.B.k, vi ki f.B.d, vi ki f.B.n, vi ki f.B.s, .int .u8 f.B.z, vi ki f.B.v, .string f.B.t] 42)).alloc (.cells #[vi ki t] 2)).alloc (.cells #[vi ki 0, vi ki 0, .bool false, .string ⟨#[]⟩] 23)).alloc (.cells #[vi ki 0, vi ki 0, .bool false, .string ⟨#[]⟩] 23)).alloc (.cells #[vi ki 0] 46)) (w.heap.size + 4) ([vi ki 0])) := (Bx.newAt ((((w.alloc (.cells #[.bool f.h, vi ki f.fr, vi ki f.off, vi ki f.A.m, vi ki f.A.k, vi ki f.A.d, vi ki f.A.n, vi ki f.A.s, .int .u8 f.A.z, vi ki f.A.v, .string f.A.t, vi ki f.B.m, vi ki f.B.k, vi ki f.B.d, vi ki f.B.n, vi ki f.B.s, .int .u8 f.B.z, vi ki f.B.v, .string f.B.t] 42)).alloc (.cells #[vi ki t] 2)).alloc (.cells #[vi ki 0, vi ki 0, .bool false, .string ⟨#[]⟩] 23)).alloc (.cells #[vi ki 0, vi ki 0, .bool false, .string ⟨#[]⟩] 23)) ([vi ki 0]) _ _ (by simp))
 have L1 : Hid (Cvl.Lens (((((w.alloc (.cells #[.bool f.h, vi ki f.fr, vi ki f.off, vi ki f.A.m, vi ki f.A.k, vi ki f.A.d, vi ki f.A.n, vi ki f.A.s, .int .u8 f.A.z, vi ki f.A.v, .string f.A.t, vi ki f.B.m, vi ki f.B.k, vi ki f.B.d, vi ki f.B.n, vi ki f.B.s, .int .u8 f.B.z, vi ki f.B.v, .string f.B.t] 42)).alloc (.cells #[vi ki t] 2)).alloc (.cells #[vi ki 0, vi ki 0, .bool false, .string ⟨#[]⟩] 23)).alloc (.cells #[vi ki 0, vi ki 0, .bool false, .string ⟨#[]⟩] 23)).alloc (.cells #[vi ki 0] 46))) := Lens_below hL0.out HB.out (Lens_lt hL0.out)
 have T1 : Hid (Clk.Tab (((((w.alloc (.cells #[.bool f.h, vi ki f.fr, vi ki f.off, vi ki f.A.m, vi ki f.A.k, vi ki f.A.d, vi ki f.A.n, vi ki f.A.s, .int .u8 f.A.z, vi ki f.A.v, .string f.A.t, vi ki f.B.m, vi ki f.B.k, vi ki f.B.d, vi ki f.B.n, vi ki f.B.s, .int .u8 f.B.z, vi ki f.B.v, .string f.B.t] 42)).alloc (.cells #[vi ki t] 2)).alloc (.cells #[vi ki 0, vi ki 0, .bool false, .string ⟨#[]⟩] 23)).alloc (.cells #[vi ki 0, vi ki 0, .bool false, .string ⟨#[]⟩] 23)).alloc (.cells #[vi ki 0] 46))) := hT0.out.below HB.out
 have CA : Hid (Calls Tryz.prog 199 #[.agg #[.bool f.h, vi ki f.fr, vi ki f.off, vi ki f.A.m, vi ki f.A.k, vi ki f.A.d, vi ki f.A.n, vi ki f.A.s, .int .u8 f.A.z, vi ki f.A.v, .string f.A.t, vi ki f.B.m, vi ki f.B.k, vi ki f.B.d, vi ki f.B.n, vi ki f.B.s, .int .u8 f.B.z, vi ki f.B.v, .string f.B.t]] (((((w.alloc (.cells #[.bool f.h, vi ki f.fr, vi ki f.off, vi ki f.A.m, vi ki f.A.k, vi ki f.A.d, vi ki f.A.n, vi ki f.A.s, .int .u8 f.A.z, vi ki f.A.v, .string f.A.t, vi ki f.B.m, vi ki f.B.k, vi ki f.B.d, vi ki f.B.n, vi ki f.B.s, .int .u8 f.B.z, vi ki f.B.v, .string f.B.t] 42)).alloc (.cells #[vi ki t] 2)).alloc (.cells #[vi ki 0, vi ki 0, .bool false, .string ⟨#[]⟩] 23)).alloc (.cells #[vi ki 0, vi ki 0, .bool false, .string ⟨#[]⟩] 23)).alloc (.cells #[vi ki 0] 46)) fun e w' => e = zr (.bool false) ∧ Below (((((w.alloc (.cells #[.bool f.h, vi ki f.fr, vi ki f.off, vi ki f.A.m, vi ki f.A.k, vi ki f.A.d, vi ki f.A.n, vi ki f.A.s, .int .u8 f.A.z, vi ki f.A.v, .string f.A.t, vi ki f.B.m, vi ki f.B.k, vi ki f.B.d, vi ki f.B.n, vi ki f.B.s, .int .u8 f.B.z, vi ki f.B.v, .string f.B.t] 42)).alloc (.cells #[vi ki t] 2)).alloc (.cells #[vi ki 0, vi ki 0, .bool false, .string ⟨#[]⟩] 23)).alloc (.cells #[vi ki 0, vi ki 0, .bool false, .string ⟨#[]⟩] 23)).alloc (.cells #[vi ki 0] 46)).heap.size (((((w.alloc (.cells #[.bool f.h, vi ki f.fr, vi ki f.off, vi ki f.A.m, vi ki f.A.k, vi ki f.A.d, vi ki f.A.n, vi ki f.A.s, .int .u8 f.A.z, vi ki f.A.v, .string f.A.t, vi ki f.B.m, vi ki f.B.k, vi ki f.B.d, vi ki f.B.n, vi ki f.B.s, .int .u8 f.B.z, vi ki f.B.v, .string f.B.t] 42)).alloc (.cells #[vi ki t] 2)).alloc (.cells #[vi ki 0, vi ki 0, .bool false, .string ⟨#[]⟩] 23)).alloc (.cells #[vi ki 0, vi ki 0, .bool false, .string ⟨#[]⟩] 23)).alloc (.cells #[vi ki 0] 46)) w') := by
  have R := can_any f (((((w.alloc (.cells #[.bool f.h, vi ki f.fr, vi ki f.off, vi ki f.A.m, vi ki f.A.k, vi ki f.A.d, vi ki f.A.n, vi ki f.A.s, .int .u8 f.A.z, vi ki f.A.v, .string f.A.t, vi ki f.B.m, vi ki f.B.k, vi ki f.B.d, vi ki f.B.n, vi ki f.B.s, .int .u8 f.B.z, vi ki f.B.v, .string f.B.t] 42)).alloc (.cells #[vi ki t] 2)).alloc (.cells #[vi ki 0, vi ki 0, .bool false, .string ⟨#[]⟩] 23)).alloc (.cells #[vi ki 0, vi ki 0, .bool false, .string ⟨#[]⟩] 23)).alloc (.cells #[vi ki 0] 46)) L1.out T1.out
  rw [hf] at R
  exact R
 go_enter Tryz.func168, Tryz.ntmps168
 go_wp2_with (first | (refine wpList_load_mid rfl 42 _ rfl w.heap.size 0 rfl [.bool f.h, vi ki f.fr, vi ki f.off, vi ki f.A.m, vi ki f.A.k, vi ki f.A.d, vi ki f.A.n, vi ki f.A.s, .int .u8 f.A.z, vi ki f.A.v, .string f.A.t, vi ki f.B.m, vi ki f.B.k, vi ki f.B.d, vi ki f.B.n, vi ki f.B.s, .int .u8 f.B.z, vi ki f.B.v, .string f.B.t] _ X0.out.all Tryz.underlying42 rfl (by kernel_rfl) ?_) | fail)
 refine CA.out.mono ?_
 rintro e w1 ⟨rfl, hb⟩
 have HB1 : Hid (Below w.heap.size w w1) := HB.out.trans (hb.mono HB.out.size)
 have Y1 := X1.out.below hb
 have Y2 := X2.out.below hb
 have Y3 := X3.out.below hb
 have Y4 := X4.out.below hb
 have L2 : Hid (Cvl.Lens w1) := bel_lens HB1.out hL0.out
 clear hb HB X0 X1 X2 X3 X4 CA L1 T1
 go_wp2_with (first | (refine wpList_store_mid rfl 23 _ _ rfl (w.heap.size + 1 + 1) 0 z4.toArray rfl rfl Y2.there (by kernel_rfl) z4_one ?_; refine gen_list (fun V => Bx V (w.heap.size + 1 + 1) z4 ∧ Bx V (w.heap.size + 1 + 1 + 1) z4 ∧ Bx V (w.heap.size + 1 + 1 + 1 + 1) [vi ki 0] ∧ Below w.heap.size w V) ⟨Y2.setAll z4 rfl, Y3.setOther (by omega) z4, Y4.setOther (by omega) z4, below_setCells (by omega) _ _ _ HB1.out⟩ ?_; clear Y2 Y3 Y4 HB1; rintro V ⟨U2, U3, U4, UB⟩) | (refine wpList_store_mid rfl 23 _ _ rfl (w.heap.size + 1 + 1 + 1) 0 z4.toArray rfl rfl U3.there (by kernel_rfl) z4_one ?_; refine gen_list (fun V => Bx V (w.heap.size + 1 + 1) z4 ∧ Bx V (w.heap.size + 1 + 1 + 1) z4 ∧ Bx V (w.heap.size + 1 + 1 + 1 + 1) [vi ki 0] ∧ Below w.heap.size w V) ⟨U2.setOther (by omega) z4, U3.setAll z4 rfl, U4.setOther (by omega) z4, below_setCells (by omega) _ _ _ UB⟩ ?_; clear U2 U3 U4 UB; rintro V1 ⟨P2, P3, P4, PB⟩; have c4 := P4.c 0 rfl; have f4 := P4.f 0 rfl) | fail)
 have Q2 := P2.setOther (b := w.heap.size + 1 + 1 + 1 + 1) (by omega) [vi ki 1]
 have Q3 := P3.setOther (b := w.heap.size + 1 + 1 + 1 + 1) (by omega) [vi ki 1]
 have Q4 := P4.setAll [vi ki 1] rfl
 exact bodyPost_ret (v := .tuple #[.agg z4.toArray, .agg z4.toArray, vi ki 1]) (results_cell3 rfl _ _ _ _ _ _ _ _ rfl rfl rfl (run_loadVar_mid _ _ _ _ _ _ Q2.all Tryz.underlying23 rfl (by kernel_rfl)) (run_loadVar_mid _ _ _ _ _ _ Q3.all Tryz.underlying23 rfl (by kernel_rfl)) (run_loadVar1 (Q4.c 0 rfl) Tryz.underlying46)) rfl ⟨rfl, below_setCells (b := w.heap.size + 1 + 1 + 1 + 1) (by omega) [vi ki 1] V1 0 PB⟩
theorem around_range (f : Ft) (t : Int) (y : Int) (hf : okF f = true) (hy : YAt t y) (t1 : -9223372036854775808 ≤ t) (t2 : t ≤ 9223372036854775807) (h : y < -4714 ∨ (¬ y < -4714 ∧ 294278 < y)) (w : World) (hL0 : Hid (Cvl.Lens w)) (hT0 : Hid (Clk.Tab w)) :
  Calls Tryz.prog 168 #[.agg #[.bool f.h, vi ki f.fr, vi ki f.off, vi ki f.A.m, vi ki f.A.k, vi ki f.A.d, vi ki f.A.n, vi ki f.A.s, .int .u8 f.A.z, vi ki f.A.v, .string f.A.t, vi ki f.B.m, vi ki f.B.k, vi ki f.B.d, vi ki f.B.n, vi ki f.B.s, .int .u8 f.B.z, vi ki f.B.v, .string f.B.t], vi ki t] w fun e w' => e = zr (.tuple #[.agg z4.toArray, .agg z4.toArray, vi ki 10]) ∧ Below w.heap.size w w' := by
 have HB : Hid (Below w.heap.size w (((((w.alloc (.cells #[.bool f.h, vi ki f.fr, vi ki f.off, vi ki f.A.m, vi ki f.A.k, vi ki f.A.d, vi ki f.A.n, vi ki f.A.s, .int .u8 f.A.z, vi ki f.A.v, .string f.A.t, vi ki f.B.m, vi ki f.B.k, vi ki f.B.d, vi ki f.B.n, vi ki f.B.s, .int .u8 f.B.z, vi ki f.B.v, .string f.B.t] 42)).alloc (.cells #[vi ki t] 2)).alloc (.cells #[vi ki 0, vi ki 0, .bool false, .string ⟨#[]⟩] 23)).alloc (.cells #[vi ki 0, vi ki 0, .bool false, .string ⟨#[]⟩] 23)).alloc (.cells #[vi ki 0] 46))) := ((((((Below.refl _ _).alloc (by simp <;> omega) _).alloc (by simp <;> omega) _).alloc (by simp <;> omega) _).alloc (by simp <;> omega) _).alloc (by simp <;> omega) _)
 have X0 : Hid (Bx (((((w.alloc (.cells #[.bool f.h, vi ki f.fr, vi ki f.off, vi ki f.A.m, vi ki f.A.k, vi ki f.A.d, vi ki f.A.n, vi ki f.A.s, .int .u8 f.A.z, vi ki f.A.v, .string f.A.t, vi ki f.B.m, vi ki f.B.k, vi ki f.B.d, vi ki f.B.n, vi ki f.B.s, .int .u8 f.B.z, vi ki f.B.v, .string f.B.t] 42)).alloc (.cells #[vi ki t] 2)).alloc (.cells #[vi ki 0, vi ki 0, .bool false, .string ⟨#[]⟩] 23)).alloc (.cells #[vi ki 0, vi ki 0, .bool false, .string ⟨#[]⟩] 23)).alloc (.cells #[vi ki 0] 46)) (w.heap.size) (fL f)) := (((((Bx.newAt w (fL f) _ _ (by simp)).alloc _).alloc _).alloc _).alloc _)
 have X1 : Hid (Bx (((((w.alloc (.cells #[.bool f.h, vi ki f.fr, vi ki f.off, vi ki f.A.m, vi ki f.A.k, vi ki f.A.d, vi ki f.A.n, vi ki f.A.s, .int .u8 f.A.z, vi ki f.A.v, .string f.A.t, vi ki f.B.m, vi ki f.B.k, vi ki f.B.d, vi ki f.B.n, vi ki f.B.s, .int .u8 f.B.z, vi ki f.B.v, .string f.B.t] 42)).alloc (.cells #[vi ki t] 2)).alloc (.cells #[vi ki 0, vi ki 0, .bool false, .string ⟨#[]⟩] 23)).alloc (.cells #[vi ki 0, vi ki 0, .bool false, .string ⟨#[]⟩] 23)).alloc (.cells #[vi ki 0] 46)) (w.heap.size + 1) ([vi ki t])) := ((((Bx.newAt (w.alloc (.cells #[.bool f.h, vi ki f.fr, vi ki f.off, vi ki f.A.m, vi ki f.A.k, vi ki f.A.d, vi ki f.A.n, vi ki f.A.s, .int .u8 f.A.z, vi ki f.A.v, .string f.A.t, vi ki f.B.m, vi ki f.B.k, vi ki f.B.d, vi ki f.B.n, vi ki f.B.s, .int .u8 f.B.z, vi ki f.B.v, .string f.B.t] 42)) ([vi ki t]) _ _ (by simp)).alloc _).alloc _).alloc _)
 have X2 : Hid (Bx (((((w.alloc (.cells #[.bool f.h, vi ki f.fr, vi ki f.off, vi ki f.A.m, vi ki f.A.k, vi ki f.A.d, vi ki f.A.n, vi ki f.A.s, .int .u8 f.A.z, vi ki f.A.v, .string f.A.t, vi ki f.B.m, vi ki f.B.k, vi ki f.B.d, vi ki f.B.n, vi ki f.B.s, .int .u8 f.B.z, vi ki f.B.v, .string f.B.t] 42)).alloc (.cells #[vi ki t] 2)).alloc (.cells #[vi ki 0, vi ki 0, .bool false, .string ⟨#[]⟩] 23)).alloc (.cells #[vi ki 0, vi ki 0, .bool false, .string ⟨#[]⟩] 23)).alloc (.cells #[vi ki 0] 46)) (w.heap.size + 2) (z4)) := (((Bx.newAt ((w.alloc (.cells #[.bool f.h, vi ki f.fr, vi ki f.off, vi ki f.A.m, vi ki f.A.k, vi ki f.A.d, vi ki f.A.n, vi ki f.A.s, .int .u8 f.A.z, vi ki f.A.v, .string f.A.t, vi ki f.B.m, vi ki f.B.k, vi ki f.B.d, vi ki f.B.n, vi ki f.B.s, .int .u8 f.B.z, vi ki f.B.v, .string f.B.t] 42)).alloc (.cells #[vi ki t] 2)) (z4) _ _ (by simp)).alloc _).alloc _)
 have X3 : Hid (Bx (((((w.alloc (.cells #[.bool f.h, vi ki f.fr, vi ki f.off, vi ki f.A.m, vi ki f.A.k, vi ki f.A.d, vi ki f.A.n, vi ki f.A.s, .int .u8 f.A.z, vi ki f.A.v, .string f.A.t, vi ki f.B.m, vi ki f.B.k, vi ki f.B.d, vi ki f.B.n, vi ki f.B.s, .int .u8 f.B.z, vi ki f.B.v, .string f.B.t] 42)).alloc (.cells #[vi ki t] 2)).alloc (.cells #[vi ki 0, vi ki 0, .bool false, .string ⟨#[]⟩] 23)).alloc (.cells #[vi ki 0, vi ki 0, .bool false, .string ⟨#[]⟩] 23)).alloc (.cells #[vi ki 0] 46)) (w.heap.size + 3) (z4)) := ((Bx.newAt (((w.alloc (.cells #[.bool f.h, vi ki f.fr, vi ki f.off, vi ki f.A.m, vi ki f.A.k, vi ki f.A.d, vi ki f.A.n, vi ki f.A.s, .int .u8 f.A.z, vi ki f.A.v, .string f.A.t, vi ki f.B.m, vi ki f.B.k, vi ki f.B.d, vi ki f.B.n, vi ki f.B.s, .int .u8 f.B.z, vi ki f.B.v, .string f.B.t] 42)).alloc (.cells #[vi ki t] 2)).alloc (.cells #[vi ki 0, vi ki 0, .bool false, .string ⟨#[]⟩] 23)) (z4) _ _ (by simp)).alloc _)
 have X4 : Hid (Bx (((((w.alloc (.cells #[.bool f.h, vi ki f.fr, vi ki f.off, vi ki f.A.m, vi ki f.A.k, vi ki f.A.d, vi ki f.A.n, vi ki f.A.s, .int .u8 f.A.z, vi ki f.A.v, .string f.A.t, vi ki f.B.m, vi ki f.B.k, vi ki f.B.d, vi ki f.B.n, vi ki f.B.s, .int .u8 f.B.z, vi ki f.B.v, .string f.B.t] 42)).alloc (.cells #[vi ki t] 2)).alloc (.cells #[vi ki 0, vi ki 0, .bool false, .string ⟨#[]⟩] 23)).alloc (.cells #[vi ki 0, vi ki 0, .bool false, .string ⟨#[]⟩] 23)).alloc (.cells #[vi ki 0] 46)) (w.heap.size + 4) ([vi ki 0])) := (Bx.newAt ((((w.alloc (.cells #[.bool f.h, vi ki f.fr, vi ki f.off, vi ki f.A.m, vi ki f.A.k, vi ki f.A.d, vi ki f.A.n, vi ki f.A.s, .int .u8 f.A.z, vi ki f.A.v, .string f.A.t, vi ki f.B.m, vi ki f.B.k, vi ki f.B.d, vi ki f.B.n, vi ki f.B.s, .int .u8 f.B.z, vi ki f.B.v, .string f.B.t] 42)).alloc (.cells #[vi ki t] 2)).alloc (.cells #[vi ki 0, vi ki 0, .bool false, .string ⟨#[]⟩] 23)).alloc (.cells #[vi ki 0, vi ki 0, .bool false, .string ⟨#[]⟩] 23)) ([vi ki 0]) _ _ (by simp))
 have L1 : Hid (Cvl.Lens (((((w.alloc (.cells #[.bool f.h, vi ki f.fr, vi ki f.off, vi ki f.A.m, vi ki f.A.k, vi ki f.A.d, vi ki f.A.n, vi ki f.A.s, .int .u8 f.A.z, vi ki f.A.v, .string f.A.t, vi ki f.B.m, vi ki f.B.k, vi ki f.B.d, vi ki f.B.n, vi ki f.B.s, .int .u8 f.B.z, vi ki f.B.v, .string f.B.t] 42)).alloc (.cells #[vi ki t] 2)).alloc (.cells #[vi ki 0, vi ki 0, .bool false, .string ⟨#[]⟩] 23)).alloc (.cells #[vi ki 0, vi ki 0, .bool false, .string ⟨#[]⟩] 23)).alloc (.cells #[vi ki 0] 46))) := Lens_below hL0.out HB.out (Lens_lt hL0.out)
 have T1 : Hid (Clk.Tab (((((w.alloc (.cells #[.bool f.h, vi ki f.fr, vi ki f.off, vi ki f.A.m, vi ki f.A.k, vi ki f.A.d, vi ki f.A.n, vi ki f.A.s, .int .u8 f.A.z, vi ki f.A.v, .string f.A.t, vi ki f.B.m, vi ki f.B.k, vi ki f.B.d, vi ki f.B.n, vi ki f.B.s, .int .u8 f.B.z, vi ki f.B.v, .string f.B.t] 42)).alloc (.cells #[vi ki t] 2)).alloc (.cells #[vi ki 0, vi ki 0, .bool false, .string ⟨#[]⟩] 23)).alloc (.cells #[vi ki 0, vi ki 0, .bool false, .string ⟨#[]⟩] 23)).alloc (.cells #[vi ki 0] 46))) := hT0.out.below HB.out
 have CA : Hid (Calls Tryz.prog 199 #[.agg #[.bool f.h, vi ki f.fr, vi ki f.off, vi ki f.A.m, vi ki f.A.k, vi ki f.A.d, vi ki f.A.n, vi ki f.A.s, .int .u8 f.A.z, vi ki f.A.v, .string f.A.t, vi ki f.B.m, vi ki f.B.k, vi ki f.B.d, vi ki f.B.n, vi ki f.B.s, .int .u8 f.B.z, vi ki f.B.v, .string f.B.t]] (((((w.alloc (.cells #[.bool f.h, vi ki f.fr, vi ki f.off, vi ki f.A.m, vi ki f.A.k, vi ki f.A.d, vi ki f.A.n, vi ki f.A.s, .int .u8 f.A.z, vi ki f.A.v, .string f.A.t, vi ki f.B.m, vi ki f.B.k, vi ki f.B.d, vi ki f.B.n, vi ki f.B.s, .int .u8 f.B.z, vi ki f.B.v, .string f.B.t] 42)).alloc (.cells #[vi ki t] 2)).alloc (.cells #[vi ki 0, vi ki 0, .bool false, .string ⟨#[]⟩] 23)).alloc (.cells #[vi ki 0, vi ki 0, .bool false, .string ⟨#[]⟩] 23)).alloc (.cells #[vi ki 0] 46)) fun e w' => e = zr (.bool true) ∧ Below (((((w.alloc (.cells #[.bool f.h, vi ki f.fr, vi ki f.off, vi ki f.A.m, vi ki f.A.k, vi ki f.A.d, vi ki f.A.n, vi ki f.A.s, .int .u8 f.A.z, vi ki f.A.v, .string f.A.t, vi ki f.B.m, vi ki f.B.k, vi ki f.B.d, vi ki f.B.n, vi ki f.B.s, .int .u8 f.B.z, vi ki f.B.v, .string f.B.t] 42)).alloc (.cells #[vi ki t] 2)).alloc (.cells #[vi ki 0, vi ki 0, .bool false, .string ⟨#[]⟩] 23)).alloc (.cells #[vi ki 0, vi ki 0, .bool false, .string ⟨#[]⟩] 23)).alloc (.cells #[vi ki 0] 46)).heap.size (((((w.alloc (.cells #[.bool f.h, vi ki f.fr, vi ki f.off, vi ki f.A.m, vi ki f.A.k, vi ki f.A.d, vi ki f.A.n, vi ki f.A.s, .int .u8 f.A.z, vi ki f.A.v, .string f.A.t, vi ki f.B.m, vi ki f.B.k, vi ki f.B.d, vi ki f.B.n, vi ki f.B.s, .int .u8 f.B.z, vi ki f.B.v, .string f.B.t] 42)).alloc (.cells #[vi ki t] 2)).alloc (.cells #[vi ki 0, vi ki 0, .bool false, .string ⟨#[]⟩] 23)).alloc (.cells #[vi ki 0, vi ki 0, .bool false, .string ⟨#[]⟩] 23)).alloc (.cells #[vi ki 0] 46)) w') := by
  have R := can_any f (((((w.alloc (.cells #[.bool f.h, vi ki f.fr, vi ki f.off, vi ki f.A.m, vi ki f.A.k, vi ki f.A.d, vi ki f.A.n, vi ki f.A.s, .int .u8 f.A.z, vi ki f.A.v, .string f.A.t, vi ki f.B.m, vi ki f.B.k, vi ki f.B.d, vi ki f.B.n, vi ki f.B.s, .int .u8 f.B.z, vi ki f.B.v, .string f.B.t] 42)).alloc (.cells #[vi ki t] 2)).alloc (.cells #[vi ki 0, vi ki 0, .bool false, .string ⟨#[]⟩] 23)).alloc (.cells #[vi ki 0, vi ki 0, .bool false, .string ⟨#[]⟩] 23)).alloc (.cells #[vi ki 0] 46)) L1.out T1.out
  rw [hf] at R
  exact R
 go_enter Tryz.func168, Tryz.ntmps168
 go_wp2_with (first | (refine wpList_load_mid rfl 42 _ rfl w.heap.size 0 rfl [.bool f.h, vi ki f.fr, vi ki f.off, vi ki f.A.m, vi ki f.A.k, vi ki f.A.d, vi ki f.A.n, vi ki f.A.s, .int .u8 f.A.z, vi ki f.A.v, .string f.A.t, vi ki f.B.m, vi ki f.B.k, vi ki f.B.d, vi ki f.B.n, vi ki f.B.s, .int .u8 f.B.z, vi ki f.B.v, .string f.B.t] _ X0.out.all Tryz.underlying42 rfl (by kernel_rfl) ?_) | fail)
 refine CA.out.mono ?_
 rintro e w1 ⟨rfl, hb⟩
 have HB1 : Hid (Below w.heap.size w w1) := HB.out.trans (hb.mono HB.out.size)
 have Y1 := X1.out.below hb
 have Y2 := X2.out.below hb
 have Y3 := X3.out.below hb
 have Y4 := X4.out.below hb
 have L2 : Hid (Cvl.Lens w1) := bel_lens HB1.out hL0.out
 clear hb HB X0 X1 X2 X3 X4 CA L1 T1
 have ct := Y1.c 0 rfl
 go_wp2_with fail
 refine (yat_any t y hy t1 t2 _ L2.out).mono ?_
 rintro e w9 ⟨rfl, rfl⟩
 rcases h with h | ⟨h, h'⟩
 ·go_wp2_with (first | (refine wpList_store_mid rfl 23 _ _ rfl (w.heap.size + 1 + 1) 0 z4.toArray rfl rfl Y2.there (by kernel_rfl) z4_one ?_; refine gen_list (fun V => Bx V (w.heap.size + 1 + 1) z4 ∧ Bx V (w.heap.size + 1 + 1 + 1) z4 ∧ Bx V (w.heap.size + 1 + 1 + 1 + 1) [vi ki 0] ∧ Below w.heap.size w V) ⟨Y2.setAll z4 rfl, Y3.setOther (by omega) z4, Y4.setOther (by omega) z4, below_setCells (by omega) _ _ _ HB1.out⟩ ?_; clear Y2 Y3 Y4 HB1; rintro V ⟨U2, U3, U4, UB⟩) | (refine wpList_store_mid rfl 23 _ _ rfl (w.heap.size + 1 + 1 + 1) 0 z4.toArray rfl rfl U3.there (by kernel_rfl) z4_one ?_; refine gen_list (fun V => Bx V (w.heap.size + 1 + 1) z4 ∧ Bx V (w.heap.size + 1 + 1 + 1) z4 ∧ Bx V (w.heap.size + 1 + 1 + 1 + 1) [vi ki 0] ∧ Below w.heap.size w V) ⟨U2.setOther (by omega) z4, U3.setAll z4 rfl, U4.setOther (by omega) z4, below_setCells (by omega) _ _ _ UB⟩ ?_; clear U2 U3 U4 UB; rintro V1 ⟨P2, P3, P4, PB⟩; have c4 := P4.c 0 rfl; have f4 := P4.f 0 rfl) | fail)
  have Q2 := P2.setOther (b := w.heap.size + 1 + 1 + 1 + 1) (by omega) [vi ki 10]
  have Q3 := P3.setOther (b := w.heap.size + 1 + 1 + 1 + 1) (by omega) [vi ki 10]
  have Q4 := P4.setAll [vi ki 10] rfl
  exact bodyPost_ret (v := .tuple #[.agg z4.toArray, .agg z4.toArray, vi ki 10]) (results_cell3 rfl _ _ _ _ _ _ _ _ rfl rfl rfl (run_loadVar_mid _ _ _ _ _ _ Q2.all Tryz.underlying23 rfl (by kernel_rfl)) (run_loadVar_mid _ _ _ _ _ _ Q3.all Tryz.underlying23 rfl (by kernel_rfl)) (run_loadVar1 (Q4.c 0 rfl) Tryz.underlying46)) rfl ⟨rfl, below_setCells (b := w.heap.size + 1 + 1 + 1 + 1) (by omega) [vi ki 10] V1 0 PB⟩
 ·go_wp2_with (first | (refine wpList_store_mid rfl 23 _ _ rfl (w.heap.size + 1 + 1) 0 z4.toArray rfl rfl Y2.there (by kernel_rfl) z4_one ?_; refine gen_list (fun V => Bx V (w.heap.size + 1 + 1) z4 ∧ Bx V (w.heap.size + 1 + 1 + 1) z4 ∧ Bx V (w.heap.size + 1 + 1 + 1 + 1) [vi ki 0] ∧ Below w.heap.size w V) ⟨Y2.setAll z4 rfl, Y3.setOther (by omega) z4, Y4.setOther (by omega) z4, below_setCells (by omega) _ _ _ HB1.out⟩ ?_; clear Y2 Y3 Y4 HB1; rintro V ⟨U2, U3, U4, UB⟩) | (refine wpList_store_mid rfl 23 _ _ rfl (w.heap.size + 1 + 1 + 1) 0 z4.toArray rfl rfl U3.there (by kernel_rfl) z4_one ?_; refine gen_list (fun V => Bx V (w.heap.size + 1 + 1) z4 ∧ Bx V (w.heap.size + 1 + 1 + 1) z4 ∧ Bx V (w.heap.size + 1 + 1 + 1 + 1) [vi ki 0] ∧ Below w.heap.size w V) ⟨U2.setOther (by omega) z4, U3.setAll z4 rfl, U4.setOther (by omega) z4, below_setCells (by omega) _ _ _ UB⟩ ?_; clear U2 U3 U4 UB; rintro V1 ⟨P2, P3, P4, PB⟩; have c4 := P4.c 0 rfl; have f4 := P4.f 0 rfl) | fail)
  have Q2 := P2.setOther (b := w.heap.size + 1 + 1 + 1 + 1) (by omega) [vi ki 10]
  have Q3 := P3.setOther (b := w.heap.size + 1 + 1 + 1 + 1) (by omega) [vi ki 10]
  have Q4 := P4.setAll [vi ki 10] rfl
  exact bodyPost_ret (v := .tuple #[.agg z4.toArray, .agg z4.toArray, vi ki 10]) (results_cell3 rfl _ _ _ _ _ _ _ _ rfl rfl rfl (run_loadVar_mid _ _ _ _ _ _ Q2.all Tryz.underlying23 rfl (by kernel_rfl)) (run_loadVar_mid _ _ _ _ _ _ Q3.all Tryz.underlying23 rfl (by kernel_rfl)) (run_loadVar1 (Q4.c 0 rfl) Tryz.underlying46)) rfl ⟨rfl, below_setCells (b := w.heap.size + 1 + 1 + 1 + 1) (by omega) [vi ki 10] V1 0 PB⟩
theorem at_run (f : Ft) (t : Int) (p q : Tr) (er : Int)
  (AR : Hid (∀ w : World, Cvl.Lens w → Clk.Tab w → Calls Tryz.prog 168 #[.agg #[.bool f.h, vi ki f.fr, vi ki f.off, vi ki f.A.m, vi ki f.A.k, vi ki f.A.d, vi ki f.A.n, vi ki f.A.s, .int .u8 f.A.z, vi ki f.A.v, .string f.A.t, vi ki f.B.m, vi ki f.B.k, vi ki f.B.d, vi ki f.B.n, vi ki f.B.s, .int .u8 f.B.z, vi ki f.B.v, .string f.B.t], vi ki t] w fun e w' => e = zr (.tuple #[.agg #[vi ki p.t, vi ki p.o, .bool p.d, .string p.a], .agg #[vi ki q.t, vi ki q.o, .bool q.d, .string q.a], vi ki er]) ∧ Below w.heap.size w w'))
  (w : World) (hL0 : Hid (Cvl.Lens w)) (hT0 : Hid (Clk.Tab w)) :
  Calls Tryz.prog 125 #[.agg #[.bool f.h, vi ki f.fr, vi ki f.off, vi ki f.A.m, vi ki f.A.k, vi ki f.A.d, vi ki f.A.n, vi ki f.A.s, .int .u8 f.A.z, vi ki f.A.v, .string f.A.t, vi ki f.B.m, vi ki f.B.k, vi ki f.B.d, vi ki f.B.n, vi ki f.B.s, .int .u8 f.B.z, vi ki f.B.v, .string f.B.t], vi ki t] w fun e w' => e = zr (.tuple #[.agg #[vi ki p.t, vi ki p.o, .bool p.d, .string p.a], vi ki er]) ∧ Below w.heap.size w w' := by
 have HB : Hid (Below w.heap.size w ((w.alloc (.cells #[.bool f.h, vi ki f.fr, vi ki f.off, vi ki f.A.m, vi ki f.A.k, vi ki f.A.d, vi ki f.A.n, vi ki f.A.s, .int .u8 f.A.z, vi ki f.A.v, .string f.A.t, vi ki f.B.m, vi ki f.B.k, vi ki f.B.d, vi ki f.B.n, vi ki f.B.s, .int .u8 f.B.z, vi ki f.B.v, .string f.B.t] 42)).alloc (.cells #[vi ki 0, vi ki 0, .bool false, .string ⟨#[]⟩] 23))) := (((Below.refl _ _).alloc (by simp <;> omega) _).alloc (by simp <;> omega) _)
 have X0 : Hid (Bx ((w.alloc (.cells #[.bool f.h, vi ki f.fr, vi ki f.off, vi ki f.A.m, vi ki f.A.k, vi ki f.A.d, vi ki f.A.n, vi ki f.A.s, .int .u8 f.A.z, vi ki f.A.v, .string f.A.t, vi ki f.B.m, vi ki f.B.k, vi ki f.B.d, vi ki f.B.n, vi ki f.B.s, .int .u8 f.B.z, vi ki f.B.v, .string f.B.t] 42)).alloc (.cells #[vi ki 0, vi ki 0, .bool false, .string ⟨#[]⟩] 23)) (w.heap.size) ([.bool f.h, vi ki f.fr, vi ki f.off, vi ki f.A.m, vi ki f.A.k, vi ki f.A.d, vi ki f.A.n, vi ki f.A.s, .int .u8 f.A.z, vi ki f.A.v, .string f.A.t, vi ki f.B.m, vi ki f.B.k, vi ki f.B.d, vi ki f.B.n, vi ki f.B.s, .int .u8 f.B.z, vi ki f.B.v, .string f.B.t])) := ((Bx.newAt w ([.bool f.h, vi ki f.fr, vi ki f.off, vi ki f.A.m, vi ki f.A.k, vi ki f.A.d, vi ki f.A.n, vi ki f.A.s, .int .u8 f.A.z, vi ki f.A.v, .string f.A.t, vi ki f.B.m, vi ki f.B.k, vi ki f.B.d, vi ki f.B.n, vi ki f.B.s, .int .u8 f.B.z, vi ki f.B.v, .string f.B.t]) _ _ (by simp)).alloc _)
 have X1 : Hid (Bx ((w.alloc (.cells #[.bool f.h, vi ki f.fr, vi ki f.off, vi ki f.A.m, vi ki f.A.k, vi ki f.A.d, vi ki f.A.n, vi ki f.A.s, .int .u8 f.A.z, vi ki f.A.v, .string f.A.t, vi ki f.B.m, vi ki f.B.k, vi ki f.B.d, vi ki f.B.n, vi ki f.B.s, .int .u8 f.B.z, vi ki f.B.v, .string f.B.t] 42)).alloc (.cells #[vi ki 0, vi ki 0, .bool false, .string ⟨#[]⟩] 23)) (w.heap.size + 1) (z4)) := (Bx.newAt (w.alloc (.cells #[.bool f.h, vi ki f.fr, vi ki f.off, vi ki f.A.m, vi ki f.A.k, vi ki f.A.d, vi ki f.A.n, vi ki f.A.s, .int .u8 f.A.z, vi ki f.A.v, .string f.A.t, vi ki f.B.m, vi ki f.B.k, vi ki f.B.d, vi ki f.B.n, vi ki f.B.s, .int .u8 f.B.z, vi ki f.B.v, .string f.B.t] 42)) (z4) _ _ (by simp))
 have L1 : Hid (Cvl.Lens ((w.alloc (.cells #[.bool f.h, vi ki f.fr, vi ki f.off, vi ki f.A.m, vi ki f.A.k, vi ki f.A.d, vi ki f.A.n, vi ki f.A.s, .int .u8 f.A.z, vi ki f.A.v, .string f.A.t, vi ki f.B.m, vi ki f.B.k, vi ki f.B.d, vi ki f.B.n, vi ki f.B.s, .int .u8 f.B.z, vi ki f.B.v, .string f.B.t] 42)).alloc (.cells #[vi ki 0, vi ki 0, .bool false, .string ⟨#[]⟩] 23))) := Lens_below hL0.out HB.out (Lens_lt hL0.out)
 have T1 : Hid (Clk.Tab ((w.alloc (.cells #[.bool f.h, vi ki f.fr, vi ki f.off, vi ki f.A.m, vi ki f.A.k, vi ki f.A.d, vi ki f.A.n, vi ki f.A.s, .int .u8 f.A.z, vi ki f.A.v, .string f.A.t, vi ki f.B.m, vi ki f.B.k, vi ki f.B.d, vi ki f.B.n, vi ki f.B.s, .int .u8 f.B.z, vi ki f.B.v, .string f.B.t] 42)).alloc (.cells #[vi ki 0, vi ki 0, .bool false, .string ⟨#[]⟩] 23))) := hT0.out.below HB.out
 go_enter Tryz.func125, Tryz.ntmps125
 go_wp2_with (first | (refine wpList_load_mid rfl 42 _ rfl w.heap.size 0 rfl [.bool f.h, vi ki f.fr, vi ki f.off, vi ki f.A.m, vi ki f.A.k, vi ki f.A.d, vi ki f.A.n, vi ki f.A.s, .int .u8 f.A.z, vi ki f.A.v, .string f.A.t, vi ki f.B.m, vi ki f.B.k, vi ki f.B.d, vi ki f.B.n, vi ki f.B.s, .int .u8 f.B.z, vi ki f.B.v, .string f.B.t] _ X0.out.all Tryz.underlying42 rfl (by kernel_rfl) ?_) | fail)
 refine (AR.out _ L1.out T1.out).mono ?_
 rintro e w1 ⟨rfl, hb⟩
 have HB1 : Hid (Below w.heap.size w w1) := HB.out.trans (hb.mono HB.out.size)
 have Y1 : Hid (Bx w1 (w.heap.size + 1) z4) := X1.out.below hb
 clear hb HB X0 X1 L1 T1 AR
 have hlt := Y1.out.1
 have Z1 : Hid (Bx ((w1.alloc (.cells #[vi ki p.t, vi ki p.o, .bool p.d, .string p.a] 23)).alloc (.cells #[vi ki q.t, vi ki q.o, .bool q.d, .string q.a] 23)) (w.heap.size + 1) z4) := (Y1.out.alloc _).alloc _
 have ZB : Hid (Below w.heap.size w ((w1.alloc (.cells #[vi ki p.t, vi ki p.o, .bool p.d, .string p.a] 23)).alloc (.cells #[vi ki q.t, vi ki q.o, .bool q.d, .string q.a] 23))) := (HB1.out.alloc HB1.out.size _).alloc (by have := HB1.out.size; simp; omega) _
 go_wp2_with (first | (refine wpList_store_mid rfl 23 _ _ rfl (w.heap.size + 1) 0 #[vi ki p.t, vi ki p.o, .bool p.d, .string p.a] rfl rfl Z1.out.there (by kernel_rfl) (tL_one p) ?_; refine gen_list (fun V => Bx V (w.heap.size + 1) (tL p) ∧ Below w.heap.size w V) ⟨Z1.out.setAll (tL p) rfl, below_setCells (by omega) _ _ _ ZB.out⟩ ?_; rintro V ⟨U1, UB⟩) | fail)
 exact bodyPost_ret (v := .tuple #[.agg #[vi ki p.t, vi ki p.o, .bool p.d, .string p.a], vi ki er]) (results_cell_t rfl _ _ _ _ _ rfl rfl (run_loadVar_mid _ _ _ _ (tL p) _ U1.all Tryz.underlying23 rfl (by kernel_rfl))) rfl ⟨rfl, UB⟩
theorem next_run (f : Ft) (t : Int) (p q : Tr) (er : Int)
  (AR : Hid (∀ w : World, Cvl.Lens w → Clk.Tab w → Calls Tryz.prog 168 #[.agg #[.bool f.h, vi ki f.fr, vi ki f.off, vi ki f.A.m, vi ki f.A.k, vi ki f.A.d, vi ki f.A.n, vi ki f.A.s, .int .u8 f.A.z, vi ki f.A.v, .string f.A.t, vi ki f.B.m, vi ki f.B.k, vi ki f.B.d, vi ki f.B.n, vi ki f.B.s, .int .u8 f.B.z, vi ki f.B.v, .string f.B.t], vi ki t] w fun e w' => e = zr (.tuple #[.agg #[vi ki p.t, vi ki p.o, .bool p.d, .string p.a], .agg #[vi ki q.t, vi ki q.o, .bool q.d, .string q.a], vi ki er]) ∧ Below w.heap.size w w'))
  (w : World) (hL0 : Hid (Cvl.Lens w)) (hT0 : Hid (Clk.Tab w)) :
  Calls Tryz.prog 206 #[.agg #[.bool f.h, vi ki f.fr, vi ki f.off, vi ki f.A.m, vi ki f.A.k, vi ki f.A.d, vi ki f.A.n, vi ki f.A.s, .int .u8 f.A.z, vi ki f.A.v, .string f.A.t, vi ki f.B.m, vi ki f.B.k, vi ki f.B.d, vi ki f.B.n, vi ki f.B.s, .int .u8 f.B.z, vi ki f.B.v, .string f.B.t], vi ki t] w fun e w' => e = zr (.tuple #[.agg #[vi ki q.t, vi ki q.o, .bool q.d, .string q.a], vi ki er]) ∧ Below w.heap.size w w' := by
 have HB : Hid (Below w.heap.size w ((w.alloc (.cells #[.bool f.h, vi ki f.fr, vi ki f.off, vi ki f.A.m, vi ki f.A.k, vi ki f.A.d, vi ki f.A.n, vi ki f.A.s, .int .u8 f.A.z, vi ki f.A.v, .string f.A.t, vi ki f.B.m, vi ki f.B.k, vi ki f.B.d, vi ki f.B.n, vi ki f.B.s, .int .u8 f.B.z, vi ki f.B.v, .string f.B.t] 42)).alloc (.cells #[vi ki 0, vi ki 0, .bool false, .string ⟨#[]⟩] 23))) := (((Below.refl _ _).alloc (by simp <;> omega) _).alloc (by simp <;> omega) _)
 have X0 : Hid (Bx ((w.alloc (.cells #[.bool f.h, vi ki f.fr, vi ki f.off, vi ki f.A.m, vi ki f.A.k, vi ki f.A.d, vi ki f.A.n, vi ki f.A.s, .int .u8 f.A.z, vi ki f.A.v, .string f.A.t, vi ki f.B.m, vi ki f.B.k, vi ki f.B.d, vi ki f.B.n, vi ki f.B.s, .int .u8 f.B.z, vi ki f.B.v, .string f.B.t] 42)).alloc (.cells #[vi ki 0, vi ki 0, .bool false, .string ⟨#[]⟩] 23)) (w.heap.size) ([.bool f.h, vi ki f.fr, vi ki f.off, vi ki f.A.m, vi ki f.A.k, vi ki f.A.d, vi ki f.A.n, vi ki f.A.s, .int .u8 f.A.z, vi ki f.A.v, .string f.A.t, vi ki f.B.m, vi ki f.B.k, vi ki f.B.d, vi ki f.B.n, vi ki f.B.s, .int .u8 f.B.z, vi ki f.B.v, .string f.B.t])) := ((Bx.newAt w ([.bool f.h, vi ki f.fr, vi ki f.off, vi ki f.A.m, vi ki f.A.k, vi ki f.A.d, vi ki f.A.n, vi ki f.A.s, .int .u8 f.A.z, vi ki f.A.v, .string f.A.t, vi ki f.B.m, vi ki f.B.k, vi ki f.B.d, vi ki f.B.n, vi ki f.B.s, .int .u8 f.B.z, vi ki f.B.v, .string f.B.t]) _ _ (by simp)).alloc _)
 have X1 : Hid (Bx ((w.alloc (.cells #[.bool f.h, vi ki f.fr, vi ki f.off, vi ki f.A.m, vi ki f.A.k, vi ki f.A.d, vi ki f.A.n, vi ki f.A.s, .int .u8 f.A.z, vi ki f.A.v, .string f.A.t, vi ki f.B.m, vi ki f.B.k, vi ki f.B.d, vi ki f.B.n, vi ki f.B.s, .int .u8 f.B.z, vi ki f.B.v, .string f.B.t] 42)).alloc (.cells #[vi ki 0, vi ki 0, .bool false, .string ⟨#[]⟩] 23)) (w.heap.size + 1) (z4)) := (Bx.newAt (w.alloc (.cells #[.bool f.h, vi ki f.fr, vi ki f.off, vi ki f.A.m, vi ki f.A.k, vi ki f.A.d, vi ki f.A.n, vi ki f.A.s, .int .u8 f.A.z, vi ki f.A.v, .string f.A.t, vi ki f.B.m, vi ki f.B.k, vi ki f.B.d, vi ki f.B.n, vi ki f.B.s, .int .u8 f.B.z, vi ki f.B.v, .string f.B.t] 42)) (z4) _ _ (by simp))
 have L1 : Hid (Cvl.Lens ((w.alloc (.cells #[.bool f.h, vi ki f.fr, vi ki f.off, vi ki f.A.m, vi ki f.A.k, vi ki f.A.d, vi ki f.A.n, vi ki f.A.s, .int .u8 f.A.z, vi ki f.A.v, .string f.A.t, vi ki f.B.m, vi ki f.B.k, vi ki f.B.d, vi ki f.B.n, vi ki f.B.s, .int .u8 f.B.z, vi ki f.B.v, .string f.B.t] 42)).alloc (.cells #[vi ki 0, vi ki 0, .bool false, .string ⟨#[]⟩] 23))) := Lens_below hL0.out HB.out (Lens_lt hL0.out)
 have T1 : Hid (Clk.Tab ((w.alloc (.cells #[.bool f.h, vi ki f.fr, vi ki f.off, vi ki f.A.m, vi ki f.A.k, vi ki f.A.d, vi ki f.A.n, vi ki f.A.s, .int .u8 f.A.z, vi ki f.A.v, .string f.A.t, vi ki f.B.m, vi ki f.B.k, vi ki f.B.d, vi ki f.B.n, vi ki f.B.s, .int .u8 f.B.z, vi ki f.B.v, .string f.B.t] 42)).alloc (.cells #[vi ki 0, vi ki 0, .bool false, .string ⟨#[]⟩] 23))) := hT0.out.below HB.out
 go_enter Tryz.func206, Tryz.ntmps206
 go_wp2_with (first | (refine wpList_load_mid rfl 42 _ rfl w.heap.size 0 rfl [.bool f.h, vi ki f.fr, vi ki f.off, vi ki f.A.m, vi ki f.A.k, vi ki f.A.d, vi ki f.A.n, vi ki f.A.s, .int .u8 f.A.z, vi ki f.A.v, .string f.A.t, vi ki f.B.m, vi ki f.B.k, vi ki f.B.d, vi ki f.B.n, vi ki f.B.s, .int .u8 f.B.z, vi ki f.B.v, .string f.B.t] _ X0.out.all Tryz.underlying42 rfl (by kernel_rfl) ?_) | fail)
 refine (AR.out _ L1.out T1.out).mono ?_
 rintro e w1 ⟨rfl, hb⟩
 have HB1 : Hid (Below w.heap.size w w1) := HB.out.trans (hb.mono HB.out.size)
 have Y1 : Hid (Bx w1 (w.heap.size + 1) z4) := X1.out.below hb
 clear hb HB X0 X1 L1 T1 AR
 have hlt := Y1.out.1
 have Z1 : Hid (Bx ((w1.alloc (.cells #[vi ki p.t, vi ki p.o, .bool p.d, .string p.a] 23)).alloc (.cells #[vi ki q.t, vi ki q.o, .bool q.d, .string q.a] 23)) (w.heap.size + 1) z4) := (Y1.out.alloc _).alloc _
 have ZB : Hid (Below w.heap.size w ((w1.alloc (.cells #[vi ki p.t, vi ki p.o, .bool p.d, .string p.a] 23)).alloc (.cells #[vi ki q.t, vi ki q.o, .bool q.d, .string q.a] 23))) := (HB1.out.alloc HB1.out.size _).alloc (by have := HB1.out.size; simp; omega) _
 go_wp2_with (first | (refine wpList_store_mid rfl 23 _ _ rfl (w.heap.size + 1) 0 #[vi ki q.t, vi ki q.o, .bool q.d, .string q.a] rfl rfl Z1.out.there (by kernel_rfl) (tL_one q) ?_; refine gen_list (fun V => Bx V (w.heap.size + 1) (tL q) ∧ Below w.heap.size w V) ⟨Z1.out.setAll (tL q) rfl, below_setCells (by omega) _ _ _ ZB.out⟩ ?_; rintro V ⟨U1, UB⟩) | fail)
 exact bodyPost_ret (v := .tuple #[.agg #[vi ki q.t, vi ki q.o, .bool q.d, .string q.a], vi ki er]) (results_cell_t rfl _ _ _ _ _ rfl rfl (run_loadVar_mid _ _ _ _ (tL q) _ U1.all Tryz.underlying23 rfl (by kernel_rfl))) rfl ⟨rfl, UB⟩
end Go.Proofs.YtklehbmghjcmaaaGreatDoor.Fn
namespace Go.Proofs.YtklehbmghjcmaaaGreatDoor.Fn
open Go.RowKit
theorem hL_one (a : Hf) : (hL a).toArray.all (·.oneCell') = true := all_oneCell_toArray (by intro v hv; simp only [hL, List.mem_cons, List.not_mem_nil, or_false] at hv; rcases hv with rfl | rfl | rfl | rfl | rfl | rfl | rfl | rfl <;> rfl)
theorem list2 {α : Type} {l : List α} (h : l.length = 2) : ∃ c0 c1, l = [c0, c1] := by
 match l, h with
 | [c0, c1], _ => exact ⟨c0, c1, rfl⟩
theorem list3 {α : Type} {l : List α} (h : l.length = 3) : ∃ c0 c1 c2, l = [c0, c1, c2] := by
 match l, h with
 | [c0, c1, c2], _ => exact ⟨c0, c1, c2, rfl⟩
theorem list5 {α : Type} {l : List α} (h : l.length = 5) : ∃ c0 c1 c2 c3 c4, l = [c0, c1, c2, c3, c4] := by
 match l, h with
 | [c0, c1, c2, c3, c4], _ => exact ⟨c0, c1, c2, c3, c4, rfl⟩
theorem list8 {α : Type} {l : List α} (h : l.length = 8) : ∃ c0 c1 c2 c3 c4 c5 c6 c7, l = [c0, c1, c2, c3, c4, c5, c6, c7] := by
 match l, h with
 | [c0, c1, c2, c3, c4, c5, c6, c7], _ => exact ⟨c0, c1, c2, c3, c4, c5, c6, c7, rfl⟩
theorem list19 {α : Type} {l : List α} (h : l.length = 19) : ∃ c0 c1 c2 c3 c4 c5 c6 c7 c8 c9 c10 c11 c12 c13 c14 c15 c16 c17 c18, l = [c0, c1, c2, c3, c4, c5, c6, c7, c8, c9, c10, c11, c12, c13, c14, c15, c16, c17, c18] := by
 match l, h with
 | [c0, c1, c2, c3, c4, c5, c6, c7, c8, c9, c10, c11, c12, c13, c14, c15, c16, c17, c18], _ => exact ⟨c0, c1, c2, c3, c4, c5, c6, c7, c8, c9, c10, c11, c12, c13, c14, c15, c16, c17, c18, rfl⟩
set_option maxRecDepth 100000
theorem laidOutP : laidOutB Tryz.prog = true := by kernel_rfl
section
variable {H : Type} {enc : TypeId × Value → H} {w : World} {base : Nat} {spare : Nat → Bool} {held : Bool}
open Go.ChangeShapes Go.WideShapes Go.ChangeAt Go.WideMaps Go.WideElems
theorem trod5 {P : Program} {t : TypeId} {f0 f1 f2 f3 f4 : Field} {fuel : Nat} {cs : List Value} {x : DataW H × List MemPlace} (ht : P.underlying t = some (.struct #[f0, f1, f2, f3, f4])) (h : DataW.trod enc P w base spare held fuel t cs = some x) :
  ∃ y0 y1 y2 y3 y4 n, cs.length = P.cellsOf t ∧ DataW.trod enc P w base spare held n f0.type ((cs.drop f0.offset).take (P.cellsOf f0.type)) = some y0 ∧
   DataW.trod enc P w base spare held n f1.type ((cs.drop f1.offset).take (P.cellsOf f1.type)) = some y1 ∧ DataW.trod enc P w base spare held n f2.type ((cs.drop f2.offset).take (P.cellsOf f2.type)) = some y2 ∧
   DataW.trod enc P w base spare held n f3.type ((cs.drop f3.offset).take (P.cellsOf f3.type)) = some y3 ∧ DataW.trod enc P w base spare held n f4.type ((cs.drop f4.offset).take (P.cellsOf f4.type)) = some y4 := by
 obtain ⟨xs, n, _, _, hl, hlen, hf⟩ := DataW.trod_struct ht h
 obtain ⟨y0, y1, y2, y3, y4, rfl⟩ := list5 hlen
 exact ⟨y0, y1, y2, y3, y4, n, hl, by simpa using hf 0 f0 rfl, by simpa using hf 1 f1 rfl, by simpa using hf 2 f2 rfl, by simpa using hf 3 f3 rfl, by simpa using hf 4 f4 rfl⟩
theorem on_open {n : Nat} {cs : List Value} {y : DataW H × List MemPlace} (h : DataW.trod enc Tryz.prog w base spare held n 26 cs = some y) :
  ∃ k d m : Int, cs = [vi ki k, vi ki d, vi ki m] ∧ (Lit.int .i64 k).wf = true ∧ (Lit.int .i64 d).wf = true ∧ (Lit.int .i64 m).wf = true := by
 obtain ⟨y0, y1, y2, n', _, hl, h0, h1, h2⟩ := Deep.trod_struct3 Tryz.underlying26 h
 have hc : cs.length = 3 := hl.trans (show Tryz.prog.cellsOf 26 = 3 by kernel_rfl)
 obtain ⟨c0, c1, c2, rfl⟩ := list3 hc
 ·obtain ⟨k, e0, _, w0⟩ := DataW.trod_int Tryz.underlying3 h0
  obtain ⟨d, e1, _, w1⟩ := DataW.trod_int Tryz.underlying2 h1
  obtain ⟨m, e2, _, w2⟩ := DataW.trod_int Tryz.underlying2 h2
  rw [show Tryz.prog.cellsOf 3 = 1 by kernel_rfl] at e0
  rw [show Tryz.prog.cellsOf 2 = 1 by kernel_rfl] at e1 e2
  simp at e0 e1 e2
  exact ⟨k, d, m, by rw [e0, e1, e2], w0, w1, w2⟩
theorem at_open {n : Nat} {cs : List Value} {y : DataW H × List MemPlace} (h : DataW.trod enc Tryz.prog w base spare held n 28 cs = some y) :
  ∃ s z : Int, cs = [vi ki s, .int .u8 z] ∧ (Lit.int .i64 s).wf = true ∧ (Lit.int .u8 z).wf = true := by
 obtain ⟨y0, y1, n', _, hl, h0, h1⟩ := trod_struct2 Tryz.underlying28 h
 have hc : cs.length = 2 := hl.trans (show Tryz.prog.cellsOf 28 = 2 by kernel_rfl)
 obtain ⟨c0, c1, rfl⟩ := list2 hc
 ·obtain ⟨k, e0, _, w0⟩ := DataW.trod_int Tryz.underlying2 h0
  obtain ⟨d, e1, _, w1⟩ := DataW.trod_int Tryz.underlying5 h1
  rw [show Tryz.prog.cellsOf 2 = 1 by kernel_rfl] at e0
  rw [show Tryz.prog.cellsOf 5 = 1 by kernel_rfl] at e1
  simp at e0 e1
  exact ⟨k, d, by rw [e0, e1], w0, w1⟩
def wfH (a : Hf) : Prop := (Lit.int .i64 a.m).wf = true ∧ (Lit.int .i64 a.k).wf = true ∧ (Lit.int .i64 a.d).wf = true ∧ (Lit.int .i64 a.n).wf = true ∧ (Lit.int .i64 a.s).wf = true ∧ (Lit.int .u8 a.z).wf = true ∧ (Lit.int .i64 a.v).wf = true
def wfF (f : Ft) : Prop := (Lit.int .i64 f.off).wf = true ∧ wfH f.A ∧ wfH f.B
theorem half_open {n : Nat} {cs : List Value} {y : DataW H × List MemPlace} (h : DataW.trod enc Tryz.prog w base spare held n 30 cs = some y) : ∃ a : Hf, cs = hL a ∧ wfH a := by
 obtain ⟨x0, x1, x2, x3, x4, n', hl, h0, h1, h2, h3, h4⟩ := trod5 Tryz.underlying30 h
 have hc : cs.length = 8 := hl.trans (show Tryz.prog.cellsOf 30 = 8 by kernel_rfl)
 obtain ⟨c0, c1, c2, c3, c4, c5, c6, c7, rfl⟩ := list8 hc
 · skip
   simp only [show Tryz.prog.cellsOf 2 = 1 by kernel_rfl, show Tryz.prog.cellsOf 26 = 3 by kernel_rfl, show Tryz.prog.cellsOf 28 = 2 by kernel_rfl, show Tryz.prog.cellsOf 9 = 1 by kernel_rfl, List.drop_succ_cons, List.drop_zero, List.take_succ_cons, List.take_zero] at h0 h1 h2 h3 h4
   obtain ⟨m, e0, _, w0⟩ := DataW.trod_int Tryz.underlying2 h0
   obtain ⟨k, d, n0, e1, w1, w2, w3⟩ := on_open h1
   obtain ⟨s, z, e2, w4, w5⟩ := at_open h2
   obtain ⟨v, e3, _, w6⟩ := DataW.trod_int Tryz.underlying2 h3
   obtain ⟨t, e4, _, w7⟩ := DataW.trod_string Tryz.underlying9 h4
   simp only [List.cons.injEq, and_true] at e0 e1 e2 e3 e4
   exact ⟨⟨m, k, d, n0, s, z, v, t⟩, by unfold hL; rw [e0, e1.1, e1.2.1, e1.2.2, e2.1, e2.2, e3, e4], w0, w1, w2, w3, w4, w5, w6⟩
end
def zF : List Value := [.bool false, vi ki 0, vi ki 0, vi ki 0, vi ki 0, vi ki 0, vi ki 0, vi ki 0, .int .u8 0, vi ki 0, .string ⟨#[]⟩, vi ki 0, vi ki 0, vi ki 0, vi ki 0, vi ki 0, .int .u8 0, vi ki 0, .string ⟨#[]⟩]
theorem fL_one (f : Ft) : (fL f).toArray.all (·.oneCell') = true := all_oneCell_toArray (by
 intro v hv
 simp only [fL, List.mem_cons, List.not_mem_nil, or_false] at hv
 repeat' (rcases hv with rfl | hv)
 all_goals first | rfl | (subst hv; rfl))
def GS (w : World) (f : Ft) (W : World) : Prop := Below w.heap.size w W ∧ Bx W w.heap.size (fL f) ∧ (Bx W (w.heap.size + 1) zF ∨ Bx W (w.heap.size + 1) (fL f))
theorem GS.below {w W V : World} {f : Ft} (h : GS w f W) (hb : Below W.heap.size W V) : GS w f V := ⟨h.1.trans (hb.mono h.1.size), h.2.1.below hb, h.2.2.imp (·.below hb) (·.below hb)⟩
theorem GS.there {w W : World} {f : Ft} (h : GS w f W) : W.there (w.heap.size + 1) 0 19 := by rcases h.2.2 with q | q <;> exact q.there
theorem GS.done {w W : World} {f : Ft} (h : GS w f W) : Bx (W.setCells (w.heap.size + 1) 0 (fL f)) (w.heap.size + 1) (fL f) := by rcases h.2.2 with q | q <;> exact q.setAll (fL f) rfl
theorem GS.put {w W : World} {f : Ft} (h : GS w f W) : GS w f (W.setCells (w.heap.size + 1) 0 (fL f)) := ⟨below_setCells (by omega) _ _ _ h.1, h.2.1.setOther (by omega) _, .inr h.done⟩
end Go.Proofs.YtklehbmghjcmaaaGreatDoor.Fn
namespace Go.Proofs.YtklehbmghjcmaaaGreatDoor.Fn
open Go.RowKit
theorem h17_any (a : Hf) (w : World) :
  Calls Tryz.prog 70 #[.agg (hL a).toArray] w fun e w' => e = zr (.agg (hL a).toArray) ∧ Below w.heap.size w w' := by
 have Z1 : Hid (Bx (w.alloc (.cells #[vi ki a.m, vi ki a.k, vi ki a.d, vi ki a.n, vi ki a.s, .int .u8 a.z, vi ki a.v, .string a.t] 30) |>.alloc (.cells #[vi ki 0, vi ki 0, vi ki 0, vi ki 0, vi ki 0, .int .u8 0, vi ki 0, .string ⟨#[]⟩] 40)) (w.heap.size + 1) [vi ki 0, vi ki 0, vi ki 0, vi ki 0, vi ki 0, .int .u8 0, vi ki 0, .string ⟨#[]⟩]) := Bx.newAt _ [vi ki 0, vi ki 0, vi ki 0, vi ki 0, vi ki 0, .int .u8 0, vi ki 0, .string ⟨#[]⟩] _ _ (by simp)
 have ZB : Hid (Below w.heap.size w (w.alloc (.cells #[vi ki a.m, vi ki a.k, vi ki a.d, vi ki a.n, vi ki a.s, .int .u8 a.z, vi ki a.v, .string a.t] 30) |>.alloc (.cells #[vi ki 0, vi ki 0, vi ki 0, vi ki 0, vi ki 0, .int .u8 0, vi ki 0, .string ⟨#[]⟩] 40))) := ((Below.refl _ _).alloc (by simp) _).alloc (by simp) _
 show Calls Tryz.prog 70 #[.agg #[vi ki a.m, vi ki a.k, vi ki a.d, vi ki a.n, vi ki a.s, .int .u8 a.z, vi ki a.v, .string a.t]] w _
 go_enter Tryz.func70, Tryz.ntmps70
 go_wp2_with (first | (refine wpList_store_mid rfl 40 _ _ rfl (w.heap.size + 1) 0 #[vi ki a.m, vi ki a.k, vi ki a.d, vi ki a.n, vi ki a.s, .int .u8 a.z, vi ki a.v, .string a.t] rfl rfl Z1.out.there (by kernel_rfl) (hL_one a) ?_; refine gen_list (fun V => Bx V (w.heap.size + 1) (hL a) ∧ Below w.heap.size w V) ⟨Z1.out.setAll (hL a) rfl, below_setCells (by omega) _ _ _ ZB.out⟩ ?_; rintro V ⟨U1, UB⟩) | fail)
 exact bodyPost_ret (v := .agg (hL a).toArray) (results_cell1 rfl _ _ _ _ rfl (run_loadVar_mid _ _ _ _ (hL a) _ U1.all Tryz.underlying40 rfl (by kernel_rfl))) rfl ⟨rfl, UB⟩
end Go.Proofs.YtklehbmghjcmaaaGreatDoor.Fn
namespace Go.Proofs.YtklehbmghjcmaaaGreatDoor
open Go.RowKit
structure TbR where
 nm : ByteArray
 first : TrR
 trs : List TrR
 foot : Fn.Ft
def tbL (t : TbR) (v : Value) : List Value := .string t.nm :: (trC t.first ++ (v :: Fn.fL t.foot))
def wfT (x : TrR) : Prop := (Lit.int .i64 x.at_).wf = true ∧ (Lit.int .i64 x.off).wf = true
def TransA (W : World) (v : Value) (L : List TrR) : Prop := (v = .slice none 0 0 ∧ L = []) ∨ ∃ a cap, v = .slice (some a) L.length cap ∧ L.length ≤ cap ∧ cap ≤ maxLen ∧ ∀ j u, (trCs L)[j]? = some u → W.cell? (a.add j) = some u
set_option maxRecDepth 100000
theorem cells30 : Tryz.prog.cellsOf 23 = 4 := by kernel_rfl
theorem bytes30 : Tryz.prog.bytesOf 23 = 40 := by kernel_rfl
theorem list4 {α : Type} {l : List α} (h : l.length = 4) : ∃ c0 c1 c2 c3, l = [c0, c1, c2, c3] := by
 match l, h with
 | [c0, c1, c2, c3], _ => exact ⟨c0, c1, c2, c3, rfl⟩
section
variable {H : Type} {enc : TypeId × Value → H} {w : World} {base : Nat} {spare : Nat → Bool} {held : Bool}
open Go.ChangeShapes Go.WideShapes Go.ChangeAt Go.WideMaps Go.WideElems
theorem trod4 {P : Program} {t : TypeId} {f0 f1 f2 f3 : Field} {fuel : Nat} {cs : List Value} {x : DataW H × List MemPlace} (ht : P.underlying t = some (.struct #[f0, f1, f2, f3])) (h : DataW.trod enc P w base spare held fuel t cs = some x) :
  ∃ y0 y1 y2 y3 n, x.1 = .agg [y0.1, y1.1, y2.1, y3.1] ∧ cs.length = P.cellsOf t ∧ DataW.trod enc P w base spare held n f0.type ((cs.drop f0.offset).take (P.cellsOf f0.type)) = some y0 ∧
   DataW.trod enc P w base spare held n f1.type ((cs.drop f1.offset).take (P.cellsOf f1.type)) = some y1 ∧ DataW.trod enc P w base spare held n f2.type ((cs.drop f2.offset).take (P.cellsOf f2.type)) = some y2 ∧
   DataW.trod enc P w base spare held n f3.type ((cs.drop f3.offset).take (P.cellsOf f3.type)) = some y3 := by
 obtain ⟨xs, n, _, hx, hl, hlen, hf⟩ := DataW.trod_struct ht h
 obtain ⟨y0, y1, y2, y3, rfl⟩ := list4 hlen
 exact ⟨y0, y1, y2, y3, n, by rw [hx]; rfl, hl, by simpa using hf 0 f0 rfl, by simpa using hf 1 f1 rfl, by simpa using hf 2 f2 rfl, by simpa using hf 3 f3 rfl⟩
theorem tran_open {n : Nat} {cs : List Value} {y : DataW H × List MemPlace} (h : DataW.trod enc Tryz.prog w base spare held n 23 cs = some y) : ∃ x : TrR, cs = trC x ∧ wfT x := by
 obtain ⟨y0, y1, y2, y3, n', _, hl, h0, h1, h2, h3⟩ := trod4 Tryz.underlying23 h
 have hc : cs.length = 4 := hl.trans cells30
 obtain ⟨c0, c1, c2, c3, rfl⟩ := list4 hc
 simp only [show Tryz.prog.cellsOf 2 = 1 by kernel_rfl, show Tryz.prog.cellsOf 4 = 1 by kernel_rfl, show Tryz.prog.cellsOf 9 = 1 by kernel_rfl, List.drop_succ_cons, List.drop_zero, List.take_succ_cons, List.take_zero] at h0 h1 h2 h3
 obtain ⟨a, e0, _, w0⟩ := DataW.trod_int Tryz.underlying2 h0
 obtain ⟨o, e1, _, w1⟩ := DataW.trod_int Tryz.underlying2 h1
 obtain ⟨d, e2, _⟩ := DataW.trod_bool Tryz.underlying4 h2
 obtain ⟨s, e3, _, w3⟩ := DataW.trod_string Tryz.underlying9 h3
 simp only [List.cons.injEq, and_true] at e0 e1 e2 e3
 exact ⟨⟨a, o, d, s⟩, by unfold trC; rw [e0, e1, e2, e3], w0, w1⟩
theorem trans_open {n : Nat} {v : Value} {y : DataW H × List MemPlace} (h : DataW.trod enc Tryz.prog w 0 (fun _ => true) held n 24 [v] = some y) :
  ∃ (L : List TrR), TransA w v L ∧ (∀ x ∈ L, wfT x) ∧ (y.1 = .nil ∧ L = [] ∨ ∃ es sp, y.1 = .slice es sp ∧ es.length = L.length) := by
 rcases DataW.trod_slice Tryz.underlying24 h with ⟨hcs, hx⟩ | ⟨a, len, cap, elems, rest, n', _, hcs, hx, _, hl, hm, hlen, hel, _, _⟩
 ·simp only [List.cons.injEq, and_true] at hcs
  exact ⟨[], .inl ⟨hcs, rfl⟩, fun x hx => by simp at hx, .inl ⟨by rw [hx], rfl⟩⟩
 ·simp only [List.cons.injEq, and_true] at hcs
  rw [cells30] at hel
  have each : ∀ k, k < len → ∃ x : TrR, w.cells? 0 (a.add (k * 4)) 4 = some (trC x) ∧ wfT x := by
   intro k hk
   have := hel k hk
   rw [List.getElem?_eq_getElem (by omega), Option.bind_eq_some_iff] at this
   obtain ⟨cs, h1, h2⟩ := this
   obtain ⟨x, rfl, hw⟩ := tran_open h2
   exact ⟨x, h1, hw⟩
  have build : ∀ k, k ≤ len → ∃ L : List TrR, L.length = k ∧ (∀ x ∈ L, wfT x) ∧ ∀ j u, (trCs L)[j]? = some u → w.cell? (a.add j) = some u := by
   intro k
   induction k with
   | zero => exact fun _ => ⟨[], rfl, fun x hx => by simp at hx, fun j u hj => by simp [trCs] at hj⟩
   | succ k ih =>
    intro hk
    obtain ⟨L, hL, hwf, hc⟩ := ih (by omega)
    obtain ⟨x, hx1, hx2⟩ := each k (by omega)
    refine ⟨L ++ [x], by simp [hL], fun z hz => ?_, fun j u hj => ?_⟩
    ·rcases List.mem_append.1 hz with hz | hz
     ·exact hwf z hz
     ·simp at hz; subst hz; exact hx2
    ·rw [trCs_app] at hj
     by_cases hlt : j < (trCs L).length
     ·rw [List.getElem?_append_left hlt] at hj; exact hc j u hj
     ·rw [List.getElem?_append_right (by omega), trCs_len, hL] at hj
      rw [trCs_len, hL] at hlt
      have hj' : (trC x)[j - k * 4]? = some u := by simpa [trCs] using hj
      have h4 : j - k * 4 < 4 := by have := (List.getElem?_eq_some_iff.1 hj').1; simpa [trC] using this
      have hcell : w.cell? ((a.add (k * 4)).add (j - k * 4)) = some u := by
       unfold World.cells? at hx1
       rw [if_pos (Nat.zero_le _)] at hx1
       have hm9 := hx1
       simp only [List.range, List.range.loop, List.mapM_cons, List.mapM_nil, Option.bind_eq_bind, Option.bind_eq_some_iff, Option.pure_def, Option.some.injEq, trC, List.cons.injEq] at hm9
       obtain ⟨u0, g0, _, ⟨u1, g1, _, ⟨u2, g2, _, ⟨u3, g3, _, rfl, rfl⟩, rfl⟩, rfl⟩, e⟩ := hm9
       simp only [List.cons.injEq, and_true] at e
       obtain ⟨e0, e1, e2, e3⟩ := e
       rcases (show j - k * 4 = 0 ∨ j - k * 4 = 1 ∨ j - k * 4 = 2 ∨ j - k * 4 = 3 by omega) with q | q | q | q <;> rw [q] at hj' ⊢ <;> simp [trC] at hj' <;> subst hj'
       ·rw [g0, e0]
       ·rw [g1, e1]
       ·rw [g2, e2]
       ·rw [g3, e3]
      have hadd : (a.add (k * 4)).add (j - k * 4) = a.add j := by rw [Addr.add_add, show k * 4 + (j - k * 4) = j by omega]
      rw [hadd] at hcell; exact hcell
  obtain ⟨L, hL, hwf, hc⟩ := build len (Nat.le_refl _)
  refine ⟨L, .inr ⟨a, cap, by rw [hL]; exact hcs, by rw [hL]; exact hl, hm, hc⟩, hwf, .inr ⟨elems.map (·.1), rest.map (·.1), by rw [hx], by simp [hlen, hL]⟩⟩
theorem foot_cells {n : Nat} {cs : List Value} {y : DataW H × List MemPlace} (h : DataW.trod enc Tryz.prog w base spare held n 32 cs = some y) : ∃ f : Fn.Ft, cs = Fn.fL f ∧ Fn.wfF f ∧ (Lit.int .i64 f.fr).wf = true := by
 obtain ⟨x0, x1, x2, x3, x4, n', hl, h0, h1, h2, h3, h4⟩ := Fn.trod5 Tryz.underlying32 h
 have hc : cs.length = 19 := hl.trans (show Tryz.prog.cellsOf 32 = 19 by kernel_rfl)
 obtain ⟨c0, c1, c2, c3, c4, c5, c6, c7, c8, c9, c10, c11, c12, c13, c14, c15, c16, c17, c18, rfl⟩ := Fn.list19 hc
 simp only [show Tryz.prog.cellsOf 4 = 1 by kernel_rfl, show Tryz.prog.cellsOf 2 = 1 by kernel_rfl, show Tryz.prog.cellsOf 30 = 8 by kernel_rfl, List.drop_succ_cons, List.drop_zero, List.take_succ_cons, List.take_zero] at h0 h1 h2 h3 h4
 obtain ⟨hs, e0, _⟩ := DataW.trod_bool Tryz.underlying4 h0
 obtain ⟨fr, e1, _, w1⟩ := DataW.trod_int Tryz.underlying2 h1
 obtain ⟨off, e2, _, w2⟩ := DataW.trod_int Tryz.underlying2 h2
 obtain ⟨A, e3, w3⟩ := Fn.half_open h3
 obtain ⟨B, e4, w4⟩ := Fn.half_open h4
 unfold Fn.hL at e3 e4
 simp only [List.cons.injEq, and_true] at e0 e1 e2 e3 e4
 obtain ⟨a0, a1, a2, a3, a4, a5, a6, a7⟩ := e3
 obtain ⟨b0, b1, b2, b3, b4, b5, b6, b7⟩ := e4
 exact ⟨⟨hs, fr, off, A, B⟩, by unfold Fn.fL; rw [e0, e1, e2, a0, a1, a2, a3, a4, a5, a6, a7, b0, b1, b2, b3, b4, b5, b6, b7], ⟨w2, w3, w4⟩, w1⟩
theorem split25 {l : List Value} (h : l.length = 25) : ∃ (c0 : Value) (f : List Value) (c5 : Value) (r : List Value), l = c0 :: (f ++ (c5 :: r)) ∧ f.length = 4 ∧ r.length = 19 := by
 refine ⟨l[0]'(by omega), (l.drop 1).take 4, l[5]'(by omega), l.drop 6, ?_, by simp; omega, by simp; omega⟩
 conv => lhs; rw [← List.take_append_drop 6 l]
 apply List.ext_getElem?
 intro i
 by_cases h6 : i < 6
 ·rw [List.getElem?_append_left (by simp; omega)]
  rcases (show i = 0 ∨ i = 1 ∨ i = 2 ∨ i = 3 ∨ i = 4 ∨ i = 5 by omega) with q | q | q | q | q | q <;> subst q <;> simp [h]
 ·rw [List.getElem?_append_right (by simp; omega)]
  obtain ⟨k, rfl⟩ : ∃ k, i = k + 6 := ⟨i - 6, by omega⟩
  simp [List.getElem?_append, h]
  rw [if_neg (by omega)]; congr 1; omega
theorem table_open {r : Reach} {b0 : Nat} {v : Value} {d : DataW H} {p : List MemPlace} (hv : Value.okWide Tryz.prog w r b0 34 v) (h : DataW.Trod enc Tryz.prog w 0 (fun _ => true) held 34 v d p) :
  ∃ (t : TbR) (sv : Value), v = .agg (tbL t sv).toArray ∧ TransA w sv t.trs ∧ (∀ x ∈ t.trs, wfT x) ∧ wfT t.first ∧ Fn.wfF t.foot ∧ (Lit.int .i64 t.foot.fr).wf = true ∧ ∃ e0 e1 e2 e3, d = .agg [e0, e1, e2, e3] ∧ (e2 = .nil ∧ t.trs = [] ∨ ∃ es sp, e2 = .slice es sp ∧ es.length = t.trs.length) := by
 obtain ⟨cs, rfl, hsz⟩ := okWide_struct Tryz.underlying34 hv
 obtain ⟨fuel, hq⟩ := h
 obtain ⟨y0, y1, y2, y3, n', hd, hl, h0, h1, h2, h3⟩ := trod4 Tryz.underlying34 hq
 obtain ⟨cs⟩ := cs
 have hc : cs.length = 25 := hsz.trans (show Tryz.prog.cellsOf 34 = 25 by kernel_rfl)
 obtain ⟨c0, f, c5, rr, rfl, hf, hr⟩ := split25 hc
 obtain ⟨f0, f1, f2, f3, rfl⟩ := list4 hf
 simp only [show Tryz.prog.cellsOf 9 = 1 by kernel_rfl, cells30, show Tryz.prog.cellsOf 24 = 1 by kernel_rfl, show Tryz.prog.cellsOf 32 = 19 by kernel_rfl, Value.cells, List.drop_succ_cons, List.drop_zero, List.take_succ_cons, List.take_zero, List.cons_append, List.nil_append] at h0 h1 h2 h3
 obtain ⟨nm, e0, _, _⟩ := DataW.trod_string Tryz.underlying9 h0
 obtain ⟨x, e1, w1⟩ := tran_open h1
 obtain ⟨L, hT, hwf, hy⟩ := trans_open h2
 rw [List.take_of_length_le (by omega)] at h3
 obtain ⟨ft, e3, w3, w4⟩ := foot_cells h3
 simp only [List.cons.injEq, and_true] at e0
 refine ⟨⟨nm, x, L, ft⟩, c5, ?_, hT, hwf, w1, w3, w4, y0.1, y1.1, y2.1, y3.1, hd, hy⟩
 unfold tbL
 rw [e0, ← e1, ← e3]
end
end Go.Proofs.YtklehbmghjcmaaaGreatDoor
