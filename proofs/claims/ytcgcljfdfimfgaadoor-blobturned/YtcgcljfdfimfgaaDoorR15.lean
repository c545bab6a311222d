import Derived.Test.YtcgcljfdfimfgaaDoorR14
import Derived.RangeFuncNested
import Derived.RangeFuncBound
import Derived.RangeFuncCalls
import Derived.RangeFuncLeaves
import Derived.Shelf.Abstract
import Derived.Shelf.RegionOpen
import Derived.WalkKit
import Derived.OwnWalkIn
import Derived.TacticsInMore
import Derived.LoopNIn
import Derived.LoopIn
/- The iterator of shifts. -/
namespace Go.Proofs.YtcgcljfdfimfgaaDoor.Fn
open Go.RowKit
set_option linter.unusedVariables false

theorem results_cell1 {P : Program} {fn : Func} {p : Tmp} {ty : TypeId} (h : fn.results = #[.cell p ty]) (tmps : Array Value) (w : World) (a : Addr) (v : Value) (hp : tmps[p]?.getD undef = .pointer (some a)) (hl : (loadVar ty a).run P w = .ok v w) :
    (results fn tmps).run P w = .ok v w := by
  simp [results, h, hp, asAddr, hl]
theorem MapF.madeAt (W : World) (f : Int → Value) (b : Nat) (h : W.heap.size = b) : MapF (W.alloc (.map #[] 0)) b f := h ▸ MapF.made W f
theorem cal_one (f : Ft) (m : Nat) : (#[.bool f.h, .int .i64 f.fr, .int .i64 f.off, .int .i64 f.A.m, .int .i64 f.A.k, .int .i64 f.A.d, .int .i64 f.A.n, .int .i64 f.A.s, .int .u8 f.A.z, .int .i64 f.A.v, .string f.A.t, .int .i64 f.B.m, .int .i64 f.B.k, .int .i64 f.B.d, .int .i64 f.B.n, .int .i64 f.B.s, .int .u8 f.B.z, .int .i64 f.B.v, .string f.B.t, .map (some m)] : Array Value).all (·.oneCell') = true := all_oneCell_toArray (cs := cL f m) (by
  intro v hv
  simp only [cL, List.mem_cons, List.not_mem_nil, or_false] at hv
  repeat' (rcases hv with rfl | hv)
  all_goals first | rfl | (subst hv; rfl))
attribute [local go_sem] Oper.semAt_some

/-- the k-th shift from a year on. -/
def shK (f : Ft) (y0 : Int) (k : Nat) : Tr := if k % 2 = 0 then sh1 f (y0 + (k / 2 : Nat)) else sh2 f (y0 + (k / 2 : Nat))
theorem shK_0 (f : Ft) (y0 : Int) (j : Nat) : shK f y0 (2 * j) = sh1 f (y0 + j) := by unfold shK; rw [if_pos (by omega), show 2 * j / 2 = j by omega]
theorem shK_1 (f : Ft) (y0 : Int) (j : Nat) : shK f y0 (2 * j + 1) = sh2 f (y0 + j) := by unfold shK; rw [if_neg (by omega), show (2 * j + 1) / 2 = j by omega]

/-- what the iterator holds. -/
structure ItS (f : Ft) (m bf bt bc : Nat) (y0 y1 : Int) (W : World) : Prop where
  cf : W.cell? ⟨bf, 0, none⟩ = some (.int .i64 y0)
  ct : W.cell? ⟨bt, 0, none⟩ = some (.int .i64 y1)
  cc : Bx W bc (cL f m)
  mp : MapF W m (prV f)
  ln : Cvl.Lens W
  lf : bf < W.heap.size
  lt : bt < W.heap.size
  nf : bf ≠ m
  nt : bt ≠ m
  nc : bc ≠ m
theorem Lens_same {W V : World} (h : Cvl.Lens W) (e : V.heap[1]? = W.heap[1]?) : Cvl.Lens V := fun i hi => (World.cell?_of_block (w := W) e).trans (h i hi)
theorem ItS.grown {f : Ft} {m bf bt bc : Nat} {y0 y1 : Int} {W V : World} (h : ItS f m bf bt bc y0 y1 W) (hg : W.grownBy V (some m)) (hM : MapF V m (prV f)) : ItS f m bf bt bc y0 y1 V :=
  ⟨(World.cell?_of_block (w := W) (hg.block bf h.lf (fun q => h.nf (by cases q; rfl)))).trans h.cf, (World.cell?_of_block (w := W) (hg.block bt h.lt (fun q => h.nt (by cases q; rfl)))).trans h.ct, h.cc.grown hg h.nc, hM,
    Lens_same h.ln (hg.block _ (Lens_lt h.ln) (fun q => lens_map h.ln h.mp (by cases q; rfl))), Nat.lt_of_lt_of_le h.lf hg.size, Nat.lt_of_lt_of_le h.lt hg.size, h.nf, h.nt, h.nc⟩
theorem Bx.same {W V : World} {b : Nat} {l : List Value} (h : Bx W b l) (hs : W.heap.size ≤ V.heap.size) (e : V.heap[b]? = W.heap[b]?) : Bx V b l :=
  ⟨Nat.lt_of_lt_of_le h.1 hs, fun i v q => ⟨(World.cell?_of_block (w := W) e).trans (h.2 i v q).1, (World.frozen?_of_block (w := W) e).trans (h.2 i v q).2⟩⟩
theorem ItS.kept {f : Ft} {m bf bt bc : Nat} {y0 y1 : Int} {W V : World} (h : ItS f m bf bt bc y0 y1 W) (hk : Kept [bf, bt, bc, m, 1] W V) : ItS f m bf bt bc y0 y1 V :=
  ⟨(World.cell?_of_block (w := W) (hk.2 bf (by simp))).trans h.cf, (World.cell?_of_block (w := W) (hk.2 bt (by simp))).trans h.ct, h.cc.same hk.1 (hk.2 bc (by simp)), h.mp.same (hk.2 m (by simp)),
    Lens_same h.ln (hk.2 _ (by simp)), Nat.lt_of_lt_of_le h.lf hk.1, Nat.lt_of_lt_of_le h.lt hk.1, h.nf, h.nt, h.nc⟩

set_option maxRecDepth 100000 in
set_option maxHeartbeats 8000000 in
theorem it_in (f : Ft) (hf : okF f = true) (m bf bt bc n l : Nat) (y0 y1 : Int) (Y : Nat) (hY1 : y1 = y0 + Y - 1) (a1 : -4718 < y0) (a2 : y1 < 294282) (a3 : y0 ≤ 294282) (J Jx : Nat → World → Prop) (hJ : Ab m J)
    (hY : ∀ k W1, k < 2 * Y → J k W1 → YieldAt Fence.wide (n - 1) Tryd.prog l #[.agg (tL (shK f y0 k)).toArray] W1 fun e W' =>
      (e = .returned (.bool true) ∧ J (k + 1) W' ∧ Kept [bf, bt, bc, m, 1] W1 W') ∨ (e = .returned (.bool false) ∧ Jx (k + 1) W'))
    (W : World) (hS : ItS f m bf bt bc y0 y1 W) (h0 : J 0 W) :
    CallsIn Fence.wide n Tryd.prog 62 #[.func (.yield l) #[] #[], .pointer (some ⟨bf, 0, none⟩), .pointer (some ⟨bt, 0, none⟩), .pointer (some ⟨bc, 0, none⟩)] W fun e W' => (∃ v, e = .returned v) ∧ (J (2 * Y) W' ∨ ∃ k, k < 2 * Y ∧ Jx (k + 1) W') := by
  refine callsIn_of_wp Tryd.func62 rfl trivial ?_ rfl
  simp only [Tryd.ntmps62, List.size_toArray, List.length_cons, List.length_nil, Nat.reduceAdd, Nat.reduceSub, Array.replicate_succ, Array.replicate_zero, List.push_toArray, List.append_toArray, List.nil_append, List.cons_append]
  have cf := hS.cf
  have HY1 : Hid (y1 = y0 + Y - 1) := hY1
  clear hY1
  gi_wp2
  gi_loopw [5] (fun yv wr => ∃ j : Nat, yv = .int .i64 (y0 + j) ∧ j ≤ Y ∧ J (2 * j) wr ∧ ItS f m bf bt bc y0 y1 wr) (fun yv _ => (y1 + 1 - intOf yv).toNat)
  case atStart => exact ⟨0, by simp, by omega, h0, hS⟩
  case round =>
    obtain ⟨j, rfl, hj, hJj, hSj⟩ := hrel
    have ct := hSj.ct
    by_cases hlt : j < Y
    · have hle : y0 + (j : Int) ≤ y1 := by have := HY1.out; omega
      gi_wp2
      gi_loopw [13] (fun iv wr => ∃ i : Nat, iv = .int .i64 (i : Int) ∧ i ≤ 2 ∧ J (2 * j + i) wr ∧ ItS f m bf bt bc y0 y1 wr) (fun iv _ => (2 - intOf iv).toNat)
      case atStart => exact ⟨0, rfl, by omega, hJj, hSj⟩
      case round =>
        obtain ⟨i, rfl, hi, hJi, hSi⟩ := hrel
        by_cases hi2 : i < 2
        · have hi3 : (i : Int) < 2 := by omega
          have SH : Hid (∀ w : World, Cvl.Lens w → MapF w m (prV f) → Calls Tryd.prog 63 #[.agg (cL f m).toArray, .int .i64 (y0 + j), .int .i64 i] w fun e w' => e = .returned (.agg (tL (shK f y0 (2 * j + i))).toArray) ∧ MapF w' m (prV f) ∧ w.grownBy w' (some m)) := fun w hw hm => by
            have R := shift_any f m (y0 + j) i (by omega) hf (by unfold dyY; omega) w hw hm
            have e : (if (i : Int) = 0 then sh1 f (y0 + j) else sh2 f (y0 + j)) = shK f y0 (2 * j + i) := by
              by_cases h : i = 0
              · subst h; rw [if_pos (by rfl)]; exact (shK_0 f y0 j).symm
              · obtain rfl : i = 1 := by omega
                rw [if_neg (by omega)]; exact (shK_1 f y0 j).symm
            rw [e] at R
            exact R
          have HS : Hid (ItS f m bf bt bc y0 y1 wr) := hSi
          have HJ : Hid (J (2 * j + i) wr) := hJi
          clear hSi hJi hSj hJj hS h0 cf ct
          gi_wp2_with (first | (refine wpListIn_load_mid rfl 107 _ rfl bc 0 rfl (cL f m) _ HS.out.cc.all Tryd.underlying107 rfl (by kernel_rfl) ?_) | fail)
          refine ⟨trivial, (fun h => by cases h), (callsIn_wide.2 (SH.out _ HS.out.ln HS.out.mp)).mono ?_⟩
          rintro e w1 ⟨rfl, M1, G1⟩
          have S1 : Hid (ItS f m bf bt bc y0 y1 w1) := HS.out.grown G1 M1
          have J1 : J (2 * j + i) w1 := hJ _ _ _ _ HJ.out G1 (fun r e => by cases e; rfl)
          clear HS HJ M1 G1 SH
          obtain ⟨fn, tmps, assign, body, hy, hR⟩ := hY (2 * j + i) w1 (by omega) J1
          have HR : Hid (RoundIn Fence.wide (n - 1) Tryd.prog l fn tmps assign body w1 fun e W' => (e = .returned (.bool true) ∧ J (2 * j + i + 1) W' ∧ Kept [bf, bt, bc, m, 1] w1 W') ∨ (e = .returned (.bool false) ∧ Jx (2 * j + i + 1) W')) := hR
          clear hR
          gi_wp2
          refine ⟨(fun h => by cases h), HR.out.mono ?_⟩
          rintro e w2 (⟨rfl, hJ2, hk2⟩ | ⟨rfl, hJx2⟩)
          · have S2 : Hid (ItS f m bf bt bc y0 y1 w2) := S1.out.kept hk2
            have J2 : Hid (J (2 * j + i + 1) w2) := hJ2
            clear S1 hJ2 hk2 HR hy J1
            gi_wp2
            go_roundw
            case rel => exact ⟨i + 1, by simp, by omega, J2.out, S2.out⟩
            case measure => simp [intOf]; omega
          · have J2 : Hid (Jx (2 * j + i + 1) w2) := hJx2
            clear S1 hJx2 HR hy J1
            gi_wp2
            refine bodyPost_ret (results_none rfl _ _ _) rfl ?_
            exact ⟨⟨_, rfl⟩, .inr ⟨2 * j + i, by omega, J2.out⟩⟩
        · obtain rfl : i = 2 := by omega
          gi_wp2
          refine ⟨⟨j + 1, by rw [show y0 + ((j + 1 : Nat) : Int) = y0 + j + 1 by omega], by omega, by rw [show 2 * (j + 1) = 2 * j + 2 by omega]; exact hJi, hSi⟩, ?_⟩
          simp [intOf]; omega
    · have hle : ¬ y0 + (j : Int) ≤ y1 := by have := HY1.out; omega
      gi_wp2
      go_end0
      exact ⟨⟨_, rfl⟩, .inl (by rw [show Y = j by omega]; exact hJj)⟩

theorem it_seq (f : Ft) (hf : okF f = true) (m bf bt bc n : Nat) (y0 y1 : Int) (Y : Nat) (hY1 : y1 = y0 + Y - 1) (a1 : -4718 < y0) (a2 : y1 < 294282) (a3 : y0 ≤ 294282) (w : World) (hS : ItS f m bf bt bc y0 y1 w) :
    SeqM Fence.wide n Tryd.prog 62 #[.pointer (some ⟨bf, 0, none⟩), .pointer (some ⟨bt, 0, none⟩), .pointer (some ⟨bc, 0, none⟩)] m [bf, bt, bc, m, 1] (fun k => .agg (tL (shK f y0 k)).toArray) (2 * Y) w :=
  fun l J Jx W hW hJ hJx hY h0 => by
    have hml : m < w.heap.size := by obtain ⟨es, c, hb, _⟩ := hS.mp; exact (Array.getElem?_eq_some_iff.1 hb).1
    exact it_in f hf m bf bt bc n l y0 y1 Y hY1 a1 a2 a3 J Jx hJ hY W (hS.kept ⟨hW.size, fun k hk => by
      simp at hk
      rcases hk with rfl | rfl | rfl | rfl | rfl
      · exact hW.block _ hS.lf
      · exact hW.block _ hS.lt
      · exact hW.block _ hS.cc.1
      · exact hW.block _ hml
      · exact hW.block _ (Lens_lt hS.ln)⟩) h0

set_option maxRecDepth 100000 in
set_option maxHeartbeats 8000000 in
theorem shifts_any (f : Ft) (m : Nat) (y0 y1 : Int) (w : World) :
    Calls Tryd.prog 55 #[.agg #[.bool f.h, .int .i64 f.fr, .int .i64 f.off, .int .i64 f.A.m, .int .i64 f.A.k, .int .i64 f.A.d, .int .i64 f.A.n, .int .i64 f.A.s, .int .u8 f.A.z, .int .i64 f.A.v, .string f.A.t, .int .i64 f.B.m, .int .i64 f.B.k, .int .i64 f.B.d, .int .i64 f.B.n, .int .i64 f.B.s, .int .u8 f.B.z, .int .i64 f.B.v, .string f.B.t, .map (some m)], .int .i64 y0, .int .i64 y1] w fun e w' => e = .returned (.func (.func 62) #[] #[.pointer (some ⟨w.heap.size + 1, 0, none⟩), .pointer (some ⟨w.heap.size + 2, 0, none⟩), .pointer (some ⟨w.heap.size, 0, none⟩)]) ∧ w' = (((w.alloc (.cells #[.bool f.h, .int .i64 f.fr, .int .i64 f.off, .int .i64 f.A.m, .int .i64 f.A.k, .int .i64 f.A.d, .int .i64 f.A.n, .int .i64 f.A.s, .int .u8 f.A.z, .int .i64 f.A.v, .string f.A.t, .int .i64 f.B.m, .int .i64 f.B.k, .int .i64 f.B.d, .int .i64 f.B.n, .int .i64 f.B.s, .int .u8 f.B.z, .int .i64 f.B.v, .string f.B.t, .map (some m)] 107)).alloc (.cells #[.int .i64 y0] 2)).alloc (.cells #[.int .i64 y1] 2)) := by
  have hmf : ∀ (fn : Fn) (first cap : Array Value) (w : World), (Instr.makeFunc fn first cap).run Tryd.prog w = .ok (.func fn first cap) w := fun _ _ _ _ => rfl
  go_enter Tryd.func55, Tryd.ntmps55
  go_wp2
  go_ret
  exact ⟨rfl, rfl⟩

set_option maxRecDepth 100000 in
set_option maxHeartbeats 8000000 in
theorem begin_any (f : Ft) (w : World) :
    Calls Tryd.prog 54 #[.agg #[.bool f.h, .int .i64 f.fr, .int .i64 f.off, .int .i64 f.A.m, .int .i64 f.A.k, .int .i64 f.A.d, .int .i64 f.A.n, .int .i64 f.A.s, .int .u8 f.A.z, .int .i64 f.A.v, .string f.A.t, .int .i64 f.B.m, .int .i64 f.B.k, .int .i64 f.B.d, .int .i64 f.B.n, .int .i64 f.B.s, .int .u8 f.B.z, .int .i64 f.B.v, .string f.B.t]] w fun e w' => e = .returned (.agg (cL f (w.heap.size + 2)).toArray) ∧ MapF w' (w.heap.size + 2) (prV f) ∧ Below w.heap.size w w' := by
  have hmm := @run_makeMap Tryd.prog
  have X0 : Hid (Bx ((w.alloc (.cells #[.bool f.h, .int .i64 f.fr, .int .i64 f.off, .int .i64 f.A.m, .int .i64 f.A.k, .int .i64 f.A.d, .int .i64 f.A.n, .int .i64 f.A.s, .int .u8 f.A.z, .int .i64 f.A.v, .string f.A.t, .int .i64 f.B.m, .int .i64 f.B.k, .int .i64 f.B.d, .int .i64 f.B.n, .int .i64 f.B.s, .int .u8 f.B.z, .int .i64 f.B.v, .string f.B.t] 44)).alloc (.cells #[.bool false, .int .i64 0, .int .i64 0, .int .i64 0, .int .i64 0, .int .i64 0, .int .i64 0, .int .i64 0, .int .u8 0, .int .i64 0, .string ⟨#[]⟩, .int .i64 0, .int .i64 0, .int .i64 0, .int .i64 0, .int .i64 0, .int .u8 0, .int .i64 0, .string ⟨#[]⟩, .map none] 107)) w.heap.size [.bool f.h, .int .i64 f.fr, .int .i64 f.off, .int .i64 f.A.m, .int .i64 f.A.k, .int .i64 f.A.d, .int .i64 f.A.n, .int .i64 f.A.s, .int .u8 f.A.z, .int .i64 f.A.v, .string f.A.t, .int .i64 f.B.m, .int .i64 f.B.k, .int .i64 f.B.d, .int .i64 f.B.n, .int .i64 f.B.s, .int .u8 f.B.z, .int .i64 f.B.v, .string f.B.t]) := (Bx.new w [.bool f.h, .int .i64 f.fr, .int .i64 f.off, .int .i64 f.A.m, .int .i64 f.A.k, .int .i64 f.A.d, .int .i64 f.A.n, .int .i64 f.A.s, .int .u8 f.A.z, .int .i64 f.A.v, .string f.A.t, .int .i64 f.B.m, .int .i64 f.B.k, .int .i64 f.B.d, .int .i64 f.B.n, .int .i64 f.B.s, .int .u8 f.B.z, .int .i64 f.B.v, .string f.B.t] _).alloc _
  have X1 : Hid (Bx (((w.alloc (.cells #[.bool f.h, .int .i64 f.fr, .int .i64 f.off, .int .i64 f.A.m, .int .i64 f.A.k, .int .i64 f.A.d, .int .i64 f.A.n, .int .i64 f.A.s, .int .u8 f.A.z, .int .i64 f.A.v, .string f.A.t, .int .i64 f.B.m, .int .i64 f.B.k, .int .i64 f.B.d, .int .i64 f.B.n, .int .i64 f.B.s, .int .u8 f.B.z, .int .i64 f.B.v, .string f.B.t] 44)).alloc (.cells #[.bool false, .int .i64 0, .int .i64 0, .int .i64 0, .int .i64 0, .int .i64 0, .int .i64 0, .int .i64 0, .int .u8 0, .int .i64 0, .string ⟨#[]⟩, .int .i64 0, .int .i64 0, .int .i64 0, .int .i64 0, .int .i64 0, .int .u8 0, .int .i64 0, .string ⟨#[]⟩, .map none] 107)).alloc (.map #[] 0)) (w.heap.size + 1) [.bool false, .int .i64 0, .int .i64 0, .int .i64 0, .int .i64 0, .int .i64 0, .int .i64 0, .int .i64 0, .int .u8 0, .int .i64 0, .string ⟨#[]⟩, .int .i64 0, .int .i64 0, .int .i64 0, .int .i64 0, .int .i64 0, .int .u8 0, .int .i64 0, .string ⟨#[]⟩, .map none]) := (Bx.newAt (w.alloc (.cells #[.bool f.h, .int .i64 f.fr, .int .i64 f.off, .int .i64 f.A.m, .int .i64 f.A.k, .int .i64 f.A.d, .int .i64 f.A.n, .int .i64 f.A.s, .int .u8 f.A.z, .int .i64 f.A.v, .string f.A.t, .int .i64 f.B.m, .int .i64 f.B.k, .int .i64 f.B.d, .int .i64 f.B.n, .int .i64 f.B.s, .int .u8 f.B.z, .int .i64 f.B.v, .string f.B.t] 44)) [.bool false, .int .i64 0, .int .i64 0, .int .i64 0, .int .i64 0, .int .i64 0, .int .i64 0, .int .i64 0, .int .u8 0, .int .i64 0, .string ⟨#[]⟩, .int .i64 0, .int .i64 0, .int .i64 0, .int .i64 0, .int .i64 0, .int .u8 0, .int .i64 0, .string ⟨#[]⟩, .map none] _ _ (by simp)).alloc _
  have BB : Hid (Below w.heap.size w (((w.alloc (.cells #[.bool f.h, .int .i64 f.fr, .int .i64 f.off, .int .i64 f.A.m, .int .i64 f.A.k, .int .i64 f.A.d, .int .i64 f.A.n, .int .i64 f.A.s, .int .u8 f.A.z, .int .i64 f.A.v, .string f.A.t, .int .i64 f.B.m, .int .i64 f.B.k, .int .i64 f.B.d, .int .i64 f.B.n, .int .i64 f.B.s, .int .u8 f.B.z, .int .i64 f.B.v, .string f.B.t] 44)).alloc (.cells #[.bool false, .int .i64 0, .int .i64 0, .int .i64 0, .int .i64 0, .int .i64 0, .int .i64 0, .int .i64 0, .int .u8 0, .int .i64 0, .string ⟨#[]⟩, .int .i64 0, .int .i64 0, .int .i64 0, .int .i64 0, .int .i64 0, .int .u8 0, .int .i64 0, .string ⟨#[]⟩, .map none] 107)).alloc (.map #[] 0))) := (((Below.refl _ _).alloc (by simp) _).alloc (by simp) _).alloc (by simp; omega) _
  have MM : Hid (MapF (((w.alloc (.cells #[.bool f.h, .int .i64 f.fr, .int .i64 f.off, .int .i64 f.A.m, .int .i64 f.A.k, .int .i64 f.A.d, .int .i64 f.A.n, .int .i64 f.A.s, .int .u8 f.A.z, .int .i64 f.A.v, .string f.A.t, .int .i64 f.B.m, .int .i64 f.B.k, .int .i64 f.B.d, .int .i64 f.B.n, .int .i64 f.B.s, .int .u8 f.B.z, .int .i64 f.B.v, .string f.B.t] 44)).alloc (.cells #[.bool false, .int .i64 0, .int .i64 0, .int .i64 0, .int .i64 0, .int .i64 0, .int .i64 0, .int .i64 0, .int .u8 0, .int .i64 0, .string ⟨#[]⟩, .int .i64 0, .int .i64 0, .int .i64 0, .int .i64 0, .int .i64 0, .int .u8 0, .int .i64 0, .string ⟨#[]⟩, .map none] 107)).alloc (.map #[] 0)) (w.heap.size + 1 + 1) (prV f)) := by
    exact MapF.madeAt ((w.alloc (.cells #[.bool f.h, .int .i64 f.fr, .int .i64 f.off, .int .i64 f.A.m, .int .i64 f.A.k, .int .i64 f.A.d, .int .i64 f.A.n, .int .i64 f.A.s, .int .u8 f.A.z, .int .i64 f.A.v, .string f.A.t, .int .i64 f.B.m, .int .i64 f.B.k, .int .i64 f.B.d, .int .i64 f.B.n, .int .i64 f.B.s, .int .u8 f.B.z, .int .i64 f.B.v, .string f.B.t] 44)).alloc (.cells #[.bool false, .int .i64 0, .int .i64 0, .int .i64 0, .int .i64 0, .int .i64 0, .int .i64 0, .int .i64 0, .int .u8 0, .int .i64 0, .string ⟨#[]⟩, .int .i64 0, .int .i64 0, .int .i64 0, .int .i64 0, .int .i64 0, .int .u8 0, .int .i64 0, .string ⟨#[]⟩, .map none] 107)) (prV f) _ (by simp)
  go_enter Tryd.func54, Tryd.ntmps54
  go_wp2_with (first | (refine wpList_load_mid rfl 44 _ rfl w.heap.size 0 rfl [.bool f.h, .int .i64 f.fr, .int .i64 f.off, .int .i64 f.A.m, .int .i64 f.A.k, .int .i64 f.A.d, .int .i64 f.A.n, .int .i64 f.A.s, .int .u8 f.A.z, .int .i64 f.A.v, .string f.A.t, .int .i64 f.B.m, .int .i64 f.B.k, .int .i64 f.B.d, .int .i64 f.B.n, .int .i64 f.B.s, .int .u8 f.B.z, .int .i64 f.B.v, .string f.B.t] _ X0.out.all Tryd.underlying44 rfl (by kernel_rfl) ?_) | (refine wpList_store_mid rfl 107 _ _ rfl (w.heap.size + 1) 0 #[.bool f.h, .int .i64 f.fr, .int .i64 f.off, .int .i64 f.A.m, .int .i64 f.A.k, .int .i64 f.A.d, .int .i64 f.A.n, .int .i64 f.A.s, .int .u8 f.A.z, .int .i64 f.A.v, .string f.A.t, .int .i64 f.B.m, .int .i64 f.B.k, .int .i64 f.B.d, .int .i64 f.B.n, .int .i64 f.B.s, .int .u8 f.B.z, .int .i64 f.B.v, .string f.B.t, .map (some (w.heap.size + 1 + 1))] rfl rfl X1.out.there (by kernel_rfl) (cal_one f _) ?_; refine gen_list (fun V => Bx V (w.heap.size + 1) (cL f (w.heap.size + 1 + 1)) ∧ MapF V (w.heap.size + 1 + 1) (prV f) ∧ Below w.heap.size w V) ⟨X1.out.setAll (cL f (w.heap.size + 1 + 1)) rfl, MM.out.same (setCells_heap _ _ _ _ _ (by omega)), below_setCells (by omega) _ _ _ BB.out⟩ ?_; rintro V ⟨E1, E2, E3⟩) | fail)
  have lv : (loadVar 107 ⟨w.heap.size + 1, 0, none⟩).run Tryd.prog V = .ok (.agg (cL f (w.heap.size + 1 + 1)).toArray) V := run_loadVar_mid V _ _ _ (cL f (w.heap.size + 1 + 1)) _ E1.all Tryd.underlying107 rfl (by kernel_rfl)
  refine bodyPost_ret (v := .agg (cL f (w.heap.size + 1 + 1)).toArray) ?_ rfl ⟨rfl, E2, E3⟩
  exact results_cell1 rfl _ _ _ _ rfl lv

end Go.Proofs.YtcgcljfdfimfgaaDoor.Fn
/- foot.Year. -/
namespace Go.Proofs.YtcgcljfdfimfgaaDoor.Fn
open Go.RowKit
set_option linter.unusedVariables false

attribute [local go_sem] Oper.semAt_some

theorem bel_lens {w V : World} (h : Below w.heap.size w V) (hL : Cvl.Lens w) : Cvl.Lens V := Lens_below hL h (Lens_lt hL)

theorem gen_codeIn {F : Fence} {n : Nat} {P : Program} {c : Code} {Q : Exit → Act → World → Prop} {a : Act} {w1 : World} (T : World → Prop) (h : T w1) (k : ∀ w2, T w2 → c.wpIn F n P Q a w2) : c.wpIn F n P Q a w1 := k _ h
end Go.Proofs.YtcgcljfdfimfgaaDoor.Fn
