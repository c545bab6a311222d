import Derived.Test.YtklehbmghjcmaaaGreatDoorRz
import Derived.Test.YtklehbmghjcmaaaGreatDoorR5
import Derived.Test.YtklehbmghjcmaaaGreatDoorR3
open Go.Value renaming int → vi
open Go.IntKind renaming i64 → ki
open List renaming setIfInBounds_toArray → zb, set_cons_zero → zc, set_cons_succ → zd
open Go.Act renaming put → za
open Go.Ending renaming returned → zr
set_option maxRecDepth 100000
set_option maxHeartbeats 16000000
set_option linter.unusedVariables false
namespace Go.Proofs.YtklehbmghjcmaaaGreatDoor
open Go.RowKit Sr
attribute [local go_sem] Oper.semAt_some
theorem below_drew_of {V v : World} (h : Below V.drew.heap.size V.drew v) : Below V.heap.size V v := ⟨h.os, h.tape, h.output, h.size, h.block⟩
def grV (g : Zm.Gr) : Value := .agg #[vi ki g.n, vi ki g.f, vi ki g.l]
def gz : Value := .agg #[vi ki 0, vi ki 0, vi ki 0]
def mpF (gl gs gm : Zm.Gr) : Int → Value := fun k => if k = 0 then grV gl else if k = 1 then grV gs else if k = 2 then grV gm else gz
theorem mpF_0 (gl gs gm : Zm.Gr) : mpF gl gs gm 0 = grV gl := rfl
theorem mpF_1 (gl gs gm : Zm.Gr) : mpF gl gs gm 1 = grV gs := rfl
theorem mpF_2 (gl gs gm : Zm.Gr) : mpF gl gs gm 2 = grV gm := rfl
theorem mpF_s0 (gl gs gm g : Zm.Gr) : (fun k => if k = 0 then grV g else mpF gl gs gm k) = mpF g gs gm := by
 funext k; unfold mpF; by_cases h : k = 0
 ·simp [h]
 ·simp [h]
theorem mpF_s1 (gl gs gm g : Zm.Gr) : (fun k => if k = 1 then grV g else mpF gl gs gm k) = mpF gl g gm := by
 funext k; unfold mpF; by_cases h : k = 1
 ·simp [h]
 ·simp [h]
theorem mpF_s2 (gl gs gm g : Zm.Gr) : (fun k => if k = 2 then grV g else mpF gl gs gm k) = mpF gl gs g := by
 funext k; unfold mpF; by_cases h : k = 2
 ·simp [h]
 ·simp [h]
structure HrS (w : World) (x : Int) (mb gb : Nat) (gl gs gm : Zm.Gr) (V : World) : Prop where
 mz : MapZ V mb gz (mpF gl gs gm)
 xl : Bx V (w.heap.size + 1) [vi ki x]
 xg : Bx V gb [.map (some mb)]
 bel : Below w.heap.size w V
 hmb : w.heap.size + 1 < mb
 hgb : mb < gb
theorem HrS.below {w : World} {x : Int} {mb gb : Nat} {gl gs gm : Zm.Gr} {V V' : World} (h : HrS w x mb gb gl gs gm V) (hb : Below V.heap.size V V') : HrS w x mb gb gl gs gm V' :=
 ⟨h.mz.same (hb.block mb h.mz.lt), h.xl.below hb, h.xg.below hb, h.bel.trans (hb.mono h.bel.size), h.hmb, h.hgb⟩
theorem HrS.mv {w : World} {x : Int} {mb gb : Nat} {gl gs gm : Zm.Gr} {n : Nat} {V V' : World} (h : HrS w x mb gb gl gs gm V) (hn : gb < n) (hb : Below n V V') : HrS w x mb gb gl gs gm V' :=
 have h1 := h.hmb
 have h2 := h.hgb
 ⟨h.mz.same (hb.block mb (by omega)), bx_mv h.xl (by omega) hb, bx_mv h.xg hn hb, h.bel.trans (hb.mono (by omega)), h.hmb, h.hgb⟩
structure HrX (w : World) (x : Int) (mb gb : Nat) (gl gs gm : Zm.Gr) (bx : Nat) (s : Zm.St) (V : World) : Prop where
 hs : HrS w x mb gb gl gs gm V
 xs : Bx V bx [vi ki s.a, vi ki s.b, vi ki s.o]
theorem HrX.below {w : World} {x : Int} {mb gb : Nat} {gl gs gm : Zm.Gr} {bx : Nat} {s : Zm.St} {V V' : World} (h : HrX w x mb gb gl gs gm bx s V) (hb : Below V.heap.size V V') : HrX w x mb gb gl gs gm bx s V' := ⟨h.hs.below hb, h.xs.below hb⟩
theorem HrX.drew {w : World} {x : Int} {mb gb : Nat} {gl gs gm : Zm.Gr} {bx : Nat} {s : Zm.St} {V : World} (h : HrX w x mb gb gl gs gm bx s V) : HrX w x mb gb gl gs gm bx s V.drew := ⟨⟨h.hs.mz, h.hs.xl, h.hs.xg, h.hs.bel.drew, h.hs.hmb, h.hs.hgb⟩, h.xs⟩
theorem hear_any (T : List Value) (hT : T.length = 25) (S : List Nat) (Ok : World → Prop) (hOk : OkS S Ok) (x : Int) (x1 : -1000000000000000 ≤ x) (x2 : x ≤ 1000000000000000) (sts : List Zm.St) (hsl : sts.length ≤ 1000000) (hso : ∀ s ∈ sts, -57600 ≤ s.o ∧ s.o ≤ 57600)
  (SQ : Hid (∀ (W : World) (b n : Nat), 5 ≤ n → Ok W → Bx W (b + 1) [vi ki (x - 57600)] → Bx W b T → Bx W (b + 2) [vi ki (x + 57600 + 1)] → SeqB n Tryz.prog 180 #[.pointer (some ⟨b + 1, 0, none⟩), .pointer (some ⟨b, 0, none⟩), .pointer (some ⟨b + 2, 0, none⟩)] ((b + 1) :: b :: (b + 2) :: S) (fun k => .agg (stC (sts.getD k ⟨0, 0, 0⟩)).toArray) sts.length W))
  (w : World) (O : Ok w) :
  Calls Tryz.prog 88 #[.agg T.toArray, vi ki x] w fun r w' => ∃ mb gm, r = zr (.map (some mb)) ∧ MapZ w' mb gz (mpF (Zm.pGo x sts (⟨0, 0, 0⟩, ⟨0, 0, 0⟩)).1 (Zm.pGo x sts (⟨0, 0, 0⟩, ⟨0, 0, 0⟩)).2 gm) ∧ Below w.heap.size w w' := by
 refine (callsIn_wide (n := 10)).1 ?_
 refine callsIn_of_wp_marks Tryz.func88 rfl trivial ?_ rfl
 simp only [Tryz.ntmps88, List.size_toArray, List.length_cons, List.length_nil, Nat.reduceAdd, Nat.reduceSub, Array.replicate_succ, Array.replicate_zero, List.push_toArray, List.append_toArray, List.nil_append, List.cons_append]
 generalize hUA : T.toArray = UA at *
 refine wpIn_mono (Q := np _) ?_ np_out
 refine wpIn_wide.2 ?_
 have hmm := @run_makeMap Tryz.prog
 go_upto_region 2 with fail
 have HA : Hid (HrS w x (w.heap.size + 1 + 1) (w.heap.size + 1 + 1 + 1) ⟨0, 0, 0⟩ ⟨0, 0, 0⟩ ⟨0, 0, 0⟩ ((((w.alloc (.cells UA 44)).alloc (.cells #[vi ki x] 2)).alloc (.map #[] 0)).alloc (.cells #[.map (some (w.heap.size + 1 + 1))] 131)) ∧ Bx ((((w.alloc (.cells UA 44)).alloc (.cells #[vi ki x] 2)).alloc (.map #[] 0)).alloc (.cells #[.map (some (w.heap.size + 1 + 1))] 131)) w.heap.size T ∧ Ok ((((w.alloc (.cells UA 44)).alloc (.cells #[vi ki x] 2)).alloc (.map #[] 0)).alloc (.cells #[.map (some (w.heap.size + 1 + 1))] 131))) := by
  subst hUA
  have b1 : Below w.heap.size w ((((w.alloc (.cells T.toArray 44)).alloc (.cells #[vi ki x] 2)).alloc (.map #[] 0)).alloc (.cells #[.map (some (w.heap.size + 1 + 1))] 131)) := ((((Below.refl _ w).alloc (Nat.le_refl _) _).alloc (by simp) _).alloc (by simp; omega) _).alloc (by simp; omega) _
  refine ⟨⟨?_, ?_, ?_, b1, by omega, by omega⟩, ?_, hOk.below O b1⟩
  ·have := MapZ.made ((w.alloc (.cells T.toArray 44)).alloc (.cells #[vi ki x] 2)) gz
   have h2 := this.same (W' := ((((w.alloc (.cells T.toArray 44)).alloc (.cells #[vi ki x] 2)).alloc (.map #[] 0)).alloc (.cells #[.map (some (w.heap.size + 1 + 1))] 131))) (Below.heap_alloc _ _ _ (by simp))
   rw [show mpF ⟨0, 0, 0⟩ ⟨0, 0, 0⟩ ⟨0, 0, 0⟩ = fun _ => gz from by funext k; unfold mpF grV gz; simp]
   simpa using h2
  ·exact ((Bx.newAt (w.alloc (.cells T.toArray 44)) [vi ki x] 2 _ (by simp)).alloc _).alloc _
  ·exact Bx.newAt _ [.map (some (w.heap.size + 1 + 1))] _ _ (by simp)
  ·exact (((Bx.new w T _).alloc _).alloc _).alloc _
 refine gen_code (fun V => HrS w x (w.heap.size + 1 + 1) (w.heap.size + 1 + 1 + 1) ⟨0, 0, 0⟩ ⟨0, 0, 0⟩ ⟨0, 0, 0⟩ V ∧ Bx V w.heap.size T ∧ Ok V) HA.out ?_
 clear HA
 rintro V0 ⟨H0', XT', O0⟩
 have H0 : Hid (HrS w x (w.heap.size + 1 + 1) (w.heap.size + 1 + 1 + 1) ⟨0, 0, 0⟩ ⟨0, 0, 0⟩ ⟨0, 0, 0⟩ V0) := H0'
 have XT : Hid (Bx V0 w.heap.size T) := XT'
 have c1 := H0'.xl.c 0 rfl
 clear H0' XT'
 go_wp2_with (first | (refine wpList_load_mid rfl 44 _ rfl w.heap.size 0 rfl T _ XT.out.all Tryz.underlying44 rfl (by rw [hT]; kernel_rfl) ?_; rw [hUA]) | fail)
 have SM := strs_mk T hT (x - 57600) (x + 57600 + 1) V0
 rw [hUA] at SM
 refine SM.mono ?_
 rintro r' w5 ⟨rfl, rfl⟩
 clear c1 SM
 have HA : Hid (HrS w x (w.heap.size + 1 + 1) (w.heap.size + 1 + 1 + 1) ⟨0, 0, 0⟩ ⟨0, 0, 0⟩ ⟨0, 0, 0⟩ (((V0.alloc (.cells UA 44)).alloc (.cells #[vi ki (x - 57600)] 2)).alloc (.cells #[vi ki (x + 57600 + 1)] 2)) ∧ Ok (((V0.alloc (.cells UA 44)).alloc (.cells #[vi ki (x - 57600)] 2)).alloc (.cells #[vi ki (x + 57600 + 1)] 2)) ∧ Bx (((V0.alloc (.cells UA 44)).alloc (.cells #[vi ki (x - 57600)] 2)).alloc (.cells #[vi ki (x + 57600 + 1)] 2)) V0.heap.size T ∧ Bx (((V0.alloc (.cells UA 44)).alloc (.cells #[vi ki (x - 57600)] 2)).alloc (.cells #[vi ki (x + 57600 + 1)] 2)) (V0.heap.size + 1) [vi ki (x - 57600)] ∧ Bx (((V0.alloc (.cells UA 44)).alloc (.cells #[vi ki (x - 57600)] 2)).alloc (.cells #[vi ki (x + 57600 + 1)] 2)) (V0.heap.size + 2) [vi ki (x + 57600 + 1)]) := by
  subst hUA
  have b1 : Below V0.heap.size V0 (((V0.alloc (.cells T.toArray 44)).alloc (.cells #[vi ki (x - 57600)] 2)).alloc (.cells #[vi ki (x + 57600 + 1)] 2)) := (((Below.refl _ V0).alloc (Nat.le_refl _) _).alloc (by simp) _).alloc (by simp; omega) _
  exact ⟨H0.out.below b1, hOk.below O0 b1, ((Bx.new V0 T _).alloc _).alloc _, (Bx.newAt (V0.alloc (.cells T.toArray 44)) [vi ki (x - 57600)] 2 _ (by simp)).alloc _, Bx.newAt ((V0.alloc (.cells T.toArray 44)).alloc (.cells #[vi ki (x - 57600)] 2)) [vi ki (x + 57600 + 1)] 2 _ (by simp)⟩
 have hgV := H0.out.xg.1
 go_wp2_with fail
 refine gen_code (fun V => HrS w x (w.heap.size + 1 + 1) (w.heap.size + 1 + 1 + 1) ⟨0, 0, 0⟩ ⟨0, 0, 0⟩ ⟨0, 0, 0⟩ V ∧ Ok V ∧ Bx V V0.heap.size T ∧ Bx V (V0.heap.size + 1) [vi ki (x - 57600)] ∧ Bx V (V0.heap.size + 2) [vi ki (x + 57600 + 1)]) HA.out ?_
 clear HA H0 XT O0
 rintro W5 ⟨H5, O5, Y1, Y2, Y3⟩
 have hb5 := Y3.1
 refine wpIn_wide.1 (rangeB (n := 10) (by decide) (gf := 180) (lb := #[.pointer (some ⟨V0.heap.size + 1, 0, none⟩), .pointer (some ⟨V0.heap.size, 0, none⟩), .pointer (some ⟨V0.heap.size + 2, 0, none⟩)]) rfl (enters_of Tryz.func180 (by kernel_rfl) rfl)
  (SQ.out W5 V0.heap.size _ (by decide) O5 Y2 Y1 Y3) [w.heap.size + 1 + 1]
  (by intro k hk; simp at hk; omega)
  (by intro k hk; simp only [List.mem_cons] at hk; rcases hk with rfl | rfl | rfl | hk; omega; omega; omega; exact hOk.lt _ O5 k hk)
  ?hSM rfl
  (fun k V => ∃ gl gs gm, HrS w x (w.heap.size + 1 + 1) (w.heap.size + 1 + 1 + 1) gl gs gm V ∧ Zm.pGo x (sts.drop k) (gl, gs) = Zm.pGo x sts (⟨0, 0, 0⟩, ⟨0, 0, 0⟩) ∧ (0 ≤ gl.n ∧ gl.n ≤ k) ∧ (0 ≤ gs.n ∧ gs.n ≤ k) ∧ (0 ≤ gm.n ∧ gm.n ≤ k))
  ?hI ⟨_, _, _, H5, rfl, ⟨Int.le_refl _, Int.le_refl _⟩, ⟨Int.le_refl _, Int.le_refl _⟩, ⟨Int.le_refl _, Int.le_refl _⟩⟩
  (fun k a' V => ∃ bx, w.heap.size + 1 + 1 + 1 < bx ∧ Bx V bx [vi ki (sts.getD k ⟨0, 0, 0⟩).a, vi ki (sts.getD k ⟨0, 0, 0⟩).b, vi ki (sts.getD k ⟨0, 0, 0⟩).o] ∧ a' = { tmps := #[.agg UA, vi ki x, .pointer (some ⟨w.heap.size, 0, none⟩), .pointer (some ⟨w.heap.size + 1, 0, none⟩), .map none, .pointer (some ⟨w.heap.size + 1 + 1 + 1, 0, none⟩), .pointer (some ⟨bx, 0, none⟩), undef, undef, undef, .map (some (w.heap.size + 1 + 1)), .agg UA, vi ki x, vi ki (x - 57600), vi ki x, vi ki (x + 57600), vi ki (x + 57600 + 1), .func (.func 180) #[] #[.pointer (some ⟨V0.heap.size + 1, 0, none⟩), .pointer (some ⟨V0.heap.size, 0, none⟩), .pointer (some ⟨V0.heap.size + 2, 0, none⟩)], .agg #[vi ki (sts.getD k ⟨0, 0, 0⟩).a, vi ki (sts.getD k ⟨0, 0, 0⟩).b, vi ki (sts.getD k ⟨0, 0, 0⟩).o], undef, undef, undef, undef, undef, undef, undef, undef, undef, undef, undef, undef, undef, undef, undef, undef, undef, undef, undef, undef, undef, undef, undef, undef, undef], defers := [] })
  ?hAx ?assign ?body ?done)
 case hSM =>
  intro k hk q
  simp at q
  subst q
  simp only [List.mem_cons] at hk
  rcases hk with h | h | h | hk
  ·omega
  ·omega
  ·omega
  ·have := hOk.lt w O _ hk; omega
 case hI =>
  rintro k A A' ⟨gl, gs, gm, p1, p2⟩ hbA
  exact ⟨gl, gs, gm, p1.mv (by omega) hbA, p2⟩
 case hAx =>
  rintro k a' V l2 o o' ⟨bx, h1, h2, h3⟩ ho hc
  refine ⟨bx, h1, bx_turns h2 (Turns.putObj (M := [l2]) V o' (by simp)) (fun q => ?_), h3⟩
  simp at q
  subst q
  have := (h2.2 0 _ rfl).1
  simp [World.cell?, ho] at this
  cases o <;> simp_all [Obj.isCells]
 case assign =>
  rintro l2 k V K' hlt hK
  simp only [stC]
  generalize sts.getD k ⟨0, 0, 0⟩ = s at *
  gi_wp2
  exact hK _ _ ((Below.refl _ V).alloc (Nat.le_refl _) _) ⟨V.heap.size, by omega, Bx.new V [vi ki s.a, vi ki s.b, vi ki s.o] _, rfl⟩
 case body =>
  rintro l2 k a' V ⟨gl, gs, gm, p1, p2, p3, p4, p5⟩ ⟨bx, hx1, hx2, rfl⟩ hk hlt
  have hsm : sts.getD k ⟨0, 0, 0⟩ ∈ sts := by rw [List.getD_eq_getElem?_getD, List.getElem?_eq_getElem hk]; exact List.getElem_mem hk
  obtain ⟨ho1, ho2⟩ := hso _ hsm
  have hdr : sts.drop k = sts.getD k ⟨0, 0, 0⟩ :: sts.drop (k + 1) := by rw [List.drop_eq_getElem_cons hk, List.getD_eq_getElem?_getD, List.getElem?_eq_getElem hk]; rfl
  rw [hdr] at p2
  clear hdr hsm SQ H5 O5 Y1 Y2 Y3 hso
  generalize sts.getD k ⟨0, 0, 0⟩ = s at *
  have HX : Hid (HrX w x (w.heap.size + 1 + 1) (w.heap.size + 1 + 1 + 1) gl gs gm bx s V) := ⟨p1, hx2⟩
  have SD : Hid (∀ V : World, Calls Tryz.prog 135 #[.agg #[vi ki s.a, vi ki s.b, vi ki s.o], vi ki x] V fun e w' => e = zr (vi ki (sdV x s)) ∧ Below V.heap.size V w') := fun V => side_any x s (by omega) (by omega) V
  obtain ⟨t, ht⟩ : ∃ t, t = x - s.o := ⟨_, rfl⟩
  have hwr : IntKind.i64.wrap (x - s.o) = t := by rw [ht, IntKind.wrap_i64]; omega
  have HTT : Hid (x - s.o = t) := ht.symm
  clear ht
  obtain ⟨kv, hkv⟩ : ∃ kv, kv = sdV x s := ⟨_, rfl⟩
  rw [← hkv] at SD
  have HGO : Hid (Zm.pGo x (s :: sts.drop (k + 1)) (gl, gs) = Zm.pGo x sts (⟨0, 0, 0⟩, ⟨0, 0, 0⟩)) := p2
  have hbn := p1.bel.size
  have HKV : Hid (kv = sdV x s) := hkv
  clear p1 hx2 p2 hkv
  gi_wp2
  refine region_round (S := HrX w x (w.heap.size + 1 + 1) (w.heap.size + 1 + 1 + 1) gl gs gm bx s) (by kernel_rfl) (by kernel_rfl) (by rintro ⟨_, _, h⟩; exact h) HX.out.drew (fun hHeld => ?_)
  refine tk (v := ?_) 0 ⟨some 19, _, _, _, _, none⟩ rfl ?_ ?_
  case refine_2 => (intro w9 hSw; have l0 := hSw.xs.c 0 rfl; have l1 := hSw.xs.c 1 rfl; have l2 := hSw.xs.c 2 rfl; have l3 := hSw.hs.xl.c 0 rfl; clear hSw; go_simp; try with_reducible rfl)
  simp only [za, zb, zc, zd]
  refine tk (v := ?_) 1 ⟨some 20, _, _, _, _, none⟩ rfl ?_ ?_
  case refine_2 => (intro w9 hSw; have l0 := hSw.xs.c 0 rfl; have l1 := hSw.xs.c 1 rfl; have l2 := hSw.xs.c 2 rfl; have l3 := hSw.hs.xl.c 0 rfl; clear hSw; go_simp; try with_reducible rfl)
  simp only [za, zb, zc, zd]
  refine tk (v := ?_) 3 ⟨some 22, _, _, _, _, none⟩ rfl ?_ ?_
  case refine_2 => (intro w9 hSw; have l0 := hSw.xs.c 0 rfl; have l1 := hSw.xs.c 1 rfl; have l2 := hSw.xs.c 2 rfl; have l3 := hSw.hs.xl.c 0 rfl; clear hSw; go_simp; try with_reducible rfl)
  simp only [za, zb, zc, zd]
  refine tks 4 ⟨some 23, _, _, _, _, none⟩ rfl ?_
  simp only [za, zb, zc, zd]
  refine tk (v := ?_) 5 ⟨some 24, _, _, _, _, none⟩ rfl ?_ ?_
  case refine_2 => (intro w9 hSw; have l0 := hSw.xs.c 0 rfl; have l1 := hSw.xs.c 1 rfl; have l2 := hSw.xs.c 2 rfl; have l3 := hSw.hs.xl.c 0 rfl; clear hSw; go_simp; try with_reducible rfl)
  simp only [za, zb, zc, zd]
  refine tks 6 ⟨some 25, _, _, _, _, none⟩ rfl ?_
  simp only [za, zb, zc, zd]
  refine rd 2 ⟨some 21, _, _, _, _, none⟩ rfl (fun K hK => ?_)
  go_simp
  refine (SD.out _).mono ?_
  rintro e v1 ⟨rfl, hb1⟩
  refine hK.out _ _ (hHeld.below hb1) (fun hHeld => ?_)
  have HVb : Hid (Below V.heap.size V v1) := below_drew_of hb1
  clear hK K hb1
  refine tks 7 ⟨some 7, _, _, _, _, none⟩ rfl ?_
  simp only [za, zb, zc, zd]
  refine tks 8 ⟨some 8, _, _, _, _, none⟩ rfl ?_
  simp only [za, zb, zc, zd]
  refine wpAnyH_done (by kernel_rfl) ?_ _
  have HH := hHeld
  clear hHeld SD HX hbn
  rcases (show (kv = 0 ∧ Hid (Zm.less x s)) ∨ (kv = 1 ∧ Hid (¬ Zm.less x s ∧ Zm.says x s)) ∨ (kv = 2 ∧ Hid (¬ Zm.less x s ∧ ¬ Zm.says x s)) by rw [HKV.out]; unfold sdV; by_cases h1 : Zm.less x s; exact .inl ⟨if_pos h1, h1⟩; by_cases h2 : Zm.says x s; exact .inr (.inl ⟨(if_neg h1).trans (if_pos h2), h1, h2⟩); exact .inr (.inr ⟨(if_neg h1).trans (if_neg h2), h1, h2⟩)) with ⟨hk0, HSD⟩ | ⟨hk0, HSD⟩ | ⟨hk0, HSD⟩
  ·subst hk0
   by_cases hz : gl.n = 0
   ·
    obtain ⟨n, f, l⟩ := gl
    simp only [] at p3 hz
    subst hz
    have hlk := lookup_Z (P := Tryz.prog) (t := 131) Tryz.underlying131 Tryz.underlying135 (show (zeroValue 134).run Tryz.prog _ = .ok gz _ from by kernel_rfl) HH.hs.mz 0
    rw [mpF_0] at hlk
    unfold grV at hlk
    simp only [] at hlk
    have cg := HH.hs.xg.c 0 rfl
    have hgl := HH.hs.xg.1
    have hba : Below v1.heap.size v1 (v1.alloc (.cells #[vi ki 1, vi ki t, vi ki t] 134)) := (Below.refl _ _).alloc (Nat.le_refl _) _
    have H9 := HH.hs.below hba
    obtain ⟨W', hup, hMZ, hgr⟩ := update_Z (P := Tryz.prog) (t := 131) Tryz.underlying131 Tryz.underlying135 H9.mz 0 (grV ⟨1, t, t⟩)
    unfold grV at hup
    simp only [] at hup
    rw [mpF_s0] at hMZ
    have hb1 := HVb.out
    gi_wp2
    refine ⟨?_, _, _, _, ⟨hMZ, bx_turns H9.xl (Turns.grown (M := [w.heap.size + 1 + 1]) hgr (by simp)) (by simp), bx_turns H9.xg (Turns.grown (M := [w.heap.size + 1 + 1]) hgr (by simp)) (by simp), H9.bel.trans ((Turns.grown (M := [w.heap.size + 1 + 1]) hgr (by simp)).below H9.bel.size (by intro q hq; simp at hq; omega)), H9.hmb, H9.hgb⟩, ?_, ?_⟩
    ·exact (Turns.of_below hb1).trans ((Turns.of_below hba).trans (Turns.grown hgr (by simp)))
    ·refine Eq.trans ?_ HGO.out
     rw [Zm.pGo]
     rw [if_pos HSD.out]
     rw [HTT.out]; rfl
    ·simp only []; omega
   ·
    obtain ⟨n, f, l⟩ := gl
    simp only [] at p3 hz
    have hz' : (n == 0) = false := by simpa using hz
    have hwn : IntKind.i64.wrap (n + 1) = n + 1 := by rw [IntKind.wrap_i64]; omega
    have hlk := lookup_Z (P := Tryz.prog) (t := 131) Tryz.underlying131 Tryz.underlying135 (show (zeroValue 134).run Tryz.prog _ = .ok gz _ from by kernel_rfl) HH.hs.mz 0
    rw [mpF_0] at hlk
    unfold grV at hlk
    simp only [] at hlk
    have cg := HH.hs.xg.c 0 rfl
    have hgl := HH.hs.xg.1
    have hba : Below v1.heap.size v1 (v1.alloc (.cells #[vi ki (n + 1), vi ki f, vi ki t] 134)) := (Below.refl _ _).alloc (Nat.le_refl _) _
    have H9 := HH.hs.below hba
    obtain ⟨W', hup, hMZ, hgr⟩ := update_Z (P := Tryz.prog) (t := 131) Tryz.underlying131 Tryz.underlying135 H9.mz 0 (grV ⟨(n + 1), f, t⟩)
    unfold grV at hup
    simp only [] at hup
    rw [mpF_s0] at hMZ
    have hb1 := HVb.out
    gi_wp2
    refine ⟨?_, _, _, _, ⟨hMZ, bx_turns H9.xl (Turns.grown (M := [w.heap.size + 1 + 1]) hgr (by simp)) (by simp), bx_turns H9.xg (Turns.grown (M := [w.heap.size + 1 + 1]) hgr (by simp)) (by simp), H9.bel.trans ((Turns.grown (M := [w.heap.size + 1 + 1]) hgr (by simp)).below H9.bel.size (by intro q hq; simp at hq; omega)), H9.hmb, H9.hgb⟩, ?_, ?_⟩
    ·exact (Turns.of_below hb1).trans ((Turns.of_below hba).trans (Turns.grown hgr (by simp)))
    ·refine Eq.trans ?_ HGO.out
     rw [Zm.pGo]
     rw [if_pos HSD.out]
     rw [HTT.out]; unfold Zm.Gr.more; simp only []; rw [if_neg hz]
    ·simp only []; omega
  ·subst hk0
   by_cases hz : gs.n = 0
   ·
    obtain ⟨n, f, l⟩ := gs
    simp only [] at p4 hz
    subst hz
    have hlk := lookup_Z (P := Tryz.prog) (t := 131) Tryz.underlying131 Tryz.underlying135 (show (zeroValue 134).run Tryz.prog _ = .ok gz _ from by kernel_rfl) HH.hs.mz 1
    rw [mpF_1] at hlk
    unfold grV at hlk
    simp only [] at hlk
    have cg := HH.hs.xg.c 0 rfl
    have hgl := HH.hs.xg.1
    have hba : Below v1.heap.size v1 (v1.alloc (.cells #[vi ki 1, vi ki t, vi ki t] 134)) := (Below.refl _ _).alloc (Nat.le_refl _) _
    have H9 := HH.hs.below hba
    obtain ⟨W', hup, hMZ, hgr⟩ := update_Z (P := Tryz.prog) (t := 131) Tryz.underlying131 Tryz.underlying135 H9.mz 1 (grV ⟨1, t, t⟩)
    unfold grV at hup
    simp only [] at hup
    rw [mpF_s1] at hMZ
    have hb1 := HVb.out
    gi_wp2
    refine ⟨?_, _, _, _, ⟨hMZ, bx_turns H9.xl (Turns.grown (M := [w.heap.size + 1 + 1]) hgr (by simp)) (by simp), bx_turns H9.xg (Turns.grown (M := [w.heap.size + 1 + 1]) hgr (by simp)) (by simp), H9.bel.trans ((Turns.grown (M := [w.heap.size + 1 + 1]) hgr (by simp)).below H9.bel.size (by intro q hq; simp at hq; omega)), H9.hmb, H9.hgb⟩, ?_, ?_⟩
    ·exact (Turns.of_below hb1).trans ((Turns.of_below hba).trans (Turns.grown hgr (by simp)))
    ·refine Eq.trans ?_ HGO.out
     rw [Zm.pGo]
     rw [if_neg HSD.out.1, if_pos HSD.out.2]
     rw [HTT.out]; rfl
    ·simp only []; omega
   ·
    obtain ⟨n, f, l⟩ := gs
    simp only [] at p4 hz
    have hz' : (n == 0) = false := by simpa using hz
    have hwn : IntKind.i64.wrap (n + 1) = n + 1 := by rw [IntKind.wrap_i64]; omega
    have hlk := lookup_Z (P := Tryz.prog) (t := 131) Tryz.underlying131 Tryz.underlying135 (show (zeroValue 134).run Tryz.prog _ = .ok gz _ from by kernel_rfl) HH.hs.mz 1
    rw [mpF_1] at hlk
    unfold grV at hlk
    simp only [] at hlk
    have cg := HH.hs.xg.c 0 rfl
    have hgl := HH.hs.xg.1
    have hba : Below v1.heap.size v1 (v1.alloc (.cells #[vi ki (n + 1), vi ki f, vi ki t] 134)) := (Below.refl _ _).alloc (Nat.le_refl _) _
    have H9 := HH.hs.below hba
    obtain ⟨W', hup, hMZ, hgr⟩ := update_Z (P := Tryz.prog) (t := 131) Tryz.underlying131 Tryz.underlying135 H9.mz 1 (grV ⟨(n + 1), f, t⟩)
    unfold grV at hup
    simp only [] at hup
    rw [mpF_s1] at hMZ
    have hb1 := HVb.out
    gi_wp2
    refine ⟨?_, _, _, _, ⟨hMZ, bx_turns H9.xl (Turns.grown (M := [w.heap.size + 1 + 1]) hgr (by simp)) (by simp), bx_turns H9.xg (Turns.grown (M := [w.heap.size + 1 + 1]) hgr (by simp)) (by simp), H9.bel.trans ((Turns.grown (M := [w.heap.size + 1 + 1]) hgr (by simp)).below H9.bel.size (by intro q hq; simp at hq; omega)), H9.hmb, H9.hgb⟩, ?_, ?_⟩
    ·exact (Turns.of_below hb1).trans ((Turns.of_below hba).trans (Turns.grown hgr (by simp)))
    ·refine Eq.trans ?_ HGO.out
     rw [Zm.pGo]
     rw [if_neg HSD.out.1, if_pos HSD.out.2]
     rw [HTT.out]; unfold Zm.Gr.more; simp only []; rw [if_neg hz]
    ·simp only []; omega
  ·subst hk0
   by_cases hz : gm.n = 0
   ·
    obtain ⟨n, f, l⟩ := gm
    simp only [] at p5 hz
    subst hz
    have hlk := lookup_Z (P := Tryz.prog) (t := 131) Tryz.underlying131 Tryz.underlying135 (show (zeroValue 134).run Tryz.prog _ = .ok gz _ from by kernel_rfl) HH.hs.mz 2
    rw [mpF_2] at hlk
    unfold grV at hlk
    simp only [] at hlk
    have cg := HH.hs.xg.c 0 rfl
    have hgl := HH.hs.xg.1
    have hba : Below v1.heap.size v1 (v1.alloc (.cells #[vi ki 1, vi ki t, vi ki t] 134)) := (Below.refl _ _).alloc (Nat.le_refl _) _
    have H9 := HH.hs.below hba
    obtain ⟨W', hup, hMZ, hgr⟩ := update_Z (P := Tryz.prog) (t := 131) Tryz.underlying131 Tryz.underlying135 H9.mz 2 (grV ⟨1, t, t⟩)
    unfold grV at hup
    simp only [] at hup
    rw [mpF_s2] at hMZ
    have hb1 := HVb.out
    gi_wp2
    refine ⟨?_, _, _, _, ⟨hMZ, bx_turns H9.xl (Turns.grown (M := [w.heap.size + 1 + 1]) hgr (by simp)) (by simp), bx_turns H9.xg (Turns.grown (M := [w.heap.size + 1 + 1]) hgr (by simp)) (by simp), H9.bel.trans ((Turns.grown (M := [w.heap.size + 1 + 1]) hgr (by simp)).below H9.bel.size (by intro q hq; simp at hq; omega)), H9.hmb, H9.hgb⟩, ?_, ?_⟩
    ·exact (Turns.of_below hb1).trans ((Turns.of_below hba).trans (Turns.grown hgr (by simp)))
    ·refine Eq.trans ?_ HGO.out
     rw [Zm.pGo]
     rw [if_neg HSD.out.1, if_neg HSD.out.2]
    ·simp only []; omega
   ·
    obtain ⟨n, f, l⟩ := gm
    simp only [] at p5 hz
    have hz' : (n == 0) = false := by simpa using hz
    have hwn : IntKind.i64.wrap (n + 1) = n + 1 := by rw [IntKind.wrap_i64]; omega
    have hlk := lookup_Z (P := Tryz.prog) (t := 131) Tryz.underlying131 Tryz.underlying135 (show (zeroValue 134).run Tryz.prog _ = .ok gz _ from by kernel_rfl) HH.hs.mz 2
    rw [mpF_2] at hlk
    unfold grV at hlk
    simp only [] at hlk
    have cg := HH.hs.xg.c 0 rfl
    have hgl := HH.hs.xg.1
    have hba : Below v1.heap.size v1 (v1.alloc (.cells #[vi ki (n + 1), vi ki f, vi ki t] 134)) := (Below.refl _ _).alloc (Nat.le_refl _) _
    have H9 := HH.hs.below hba
    obtain ⟨W', hup, hMZ, hgr⟩ := update_Z (P := Tryz.prog) (t := 131) Tryz.underlying131 Tryz.underlying135 H9.mz 2 (grV ⟨(n + 1), f, t⟩)
    unfold grV at hup
    simp only [] at hup
    rw [mpF_s2] at hMZ
    have hb1 := HVb.out
    gi_wp2
    refine ⟨?_, _, _, _, ⟨hMZ, bx_turns H9.xl (Turns.grown (M := [w.heap.size + 1 + 1]) hgr (by simp)) (by simp), bx_turns H9.xg (Turns.grown (M := [w.heap.size + 1 + 1]) hgr (by simp)) (by simp), H9.bel.trans ((Turns.grown (M := [w.heap.size + 1 + 1]) hgr (by simp)).below H9.bel.size (by intro q hq; simp at hq; omega)), H9.hmb, H9.hgb⟩, ?_, ?_⟩
    ·exact (Turns.of_below hb1).trans ((Turns.of_below hba).trans (Turns.grown hgr (by simp)))
    ·refine Eq.trans ?_ HGO.out
     rw [Zm.pGo]
     rw [if_neg HSD.out.1, if_neg HSD.out.2]
    ·simp only []; omega
 case done =>
  rintro D V hD ⟨gl, gs, gm, p1, p2, p3, p4, p5⟩ hK
  have hfin : (gl, gs) = Zm.pGo x sts (⟨0, 0, 0⟩, ⟨0, 0, 0⟩) := by rw [List.drop_length] at p2; exact p2
  have cg := p1.xg.c 0 rfl
  have hh1 := p1.hmb
  have hh2 := p1.hgb
  go_wp2_with fail
  refine ⟨by simp, .inl ⟨_, _, rfl, run_takeDeferred hK, ?_⟩⟩
  refine ⟨_, results_tmp rfl _ _ _, _, gm, rfl, ?_, ?_⟩
  ·rw [← hfin]; exact p1.mz.same (World.putObj_heap_other (by omega))
  ·exact p1.bel.trans ((Turns.putObj (M := [D]) V _ (by simp)).below p1.bel.size (by intro q hq; simp at hq; omega))
def inV (g : Zm.Gr × Zm.Gr) : Int := if g.2.n = 0 then g.1.l else g.2.f
def inH (g : Zm.Gr × Zm.Gr) : Int := if g.2.n = 0 then 2 else if g.2.n = 1 then 0 else 1
theorem zin_yes (T : List Value) (hT : T.length = 25) (x : Int) (y1 : -1000000000000000 ≤ x) (y2 : x ≤ 1000000000000000) (g : Zm.Gr × Zm.Gr) (w : World) (RT : Hid (∀ W : World, Below w.heap.size w W → Calls Tryz.prog 31 #[.agg T.toArray] W fun r w' => r = zr (.bool true) ∧ Below W.heap.size W w'))
  (A1 : Hid (∀ W : World, Below w.heap.size w W → Calls Tryz.prog 78 #[vi ki x] W fun r w' => r = zr (.bool true) ∧ w' = W))
  (A2 : Hid (∀ W : World, Below w.heap.size w W → Calls Tryz.prog 78 #[vi ki (x - 57600)] W fun r w' => r = zr (.bool true) ∧ w' = W))
  (A3 : Hid (∀ W : World, Below w.heap.size w W → Calls Tryz.prog 78 #[vi ki (x + 57600)] W fun r w' => r = zr (.bool true) ∧ w' = W))
  (HE : Hid (∀ W : World, Below w.heap.size w W → Calls Tryz.prog 88 #[.agg T.toArray, vi ki x] W fun r w' => ∃ mb gm, r = zr (.map (some mb)) ∧ MapZ w' mb gz (mpF g.1 g.2 gm) ∧ Below W.heap.size W w')) :
  Calls Tryz.prog 40 #[.agg T.toArray, vi ki x] w fun r w' => r = zr (.tuple #[vi ki (inV g), vi ki (inH g), vi ki 0]) ∧ Below w.heap.size w w' := by
 have X1 : Hid (Bx (w.alloc (.cells T.toArray 44)) w.heap.size T) := Bx.new w T _
 have B1 : Hid (Below w.heap.size w (w.alloc (.cells T.toArray 44))) := (Below.refl _ _).alloc (Nat.le_refl _) _
 go_enter Tryz.func40, Tryz.ntmps40
 generalize hUA : T.toArray = UA at *
 go_upto_region 1 with fail
 refine gen_code (fun V => Bx V w.heap.size T ∧ Below w.heap.size w V) ⟨X1.out, B1.out⟩ ?_
 clear X1 B1
 rintro V ⟨XV, BV⟩
 have HX : Hid (Bx V w.heap.size T) := XV
 have HB : Hid (Below w.heap.size w V) := BV
 clear XV BV
 go_wp2_with (first | (refine wpList_load_mid rfl 44 _ rfl w.heap.size 0 rfl T _ HX.out.all Tryz.underlying44 rfl (by rw [hT]; kernel_rfl) ?_; rw [hUA]) | fail)
 refine (RT.out _ HB.out).mono ?_
 rintro e v1 ⟨rfl, hb1⟩
 have HX1 : Hid (Bx v1 w.heap.size T) := HX.out.below hb1
 have HB1 : Hid (Below w.heap.size w v1) := HB.out.trans (hb1.mono HB.out.size)
 clear hb1 HX HB
 go_wp2_with fail
 refine (A1.out _ HB1.out).mono ?_
 rintro e v2 ⟨rfl, hv⟩
 rw [hv]; clear hv v2
 go_wp2_with fail
 refine (A2.out _ HB1.out).mono ?_
 rintro e v2 ⟨rfl, hv⟩
 rw [hv]; clear hv v2
 go_wp2_with fail
 refine (A3.out _ HB1.out).mono ?_
 rintro e v2 ⟨rfl, hv⟩
 rw [hv]; clear hv v2
 go_wp2_with (first | (refine wpList_load_mid rfl 44 _ rfl w.heap.size 0 rfl T _ HX1.out.all Tryz.underlying44 rfl (by rw [hT]; kernel_rfl) ?_; rw [hUA]) | fail)
 refine (HE.out _ HB1.out).mono ?_
 rintro e v3 ⟨mb, gm, rfl, hMZ, hb3⟩
 have HB3 : Hid (Below w.heap.size w v3) := HB1.out.trans (hb3.mono HB1.out.size)
 clear hb3 HX1 HB1 HE RT A1 A2 A3
 obtain ⟨⟨n0, f0, l0⟩, ⟨n1, f1, l1⟩⟩ := g
 have hl1 := lookup_Z (P := Tryz.prog) (t := 131) Tryz.underlying131 Tryz.underlying135 (show (zeroValue 134).run Tryz.prog _ = .ok gz _ from by kernel_rfl) hMZ 1
 rw [mpF_1] at hl1
 unfold grV at hl1
 simp only [] at hl1
 have hb4 : Below v3.heap.size v3 (v3.alloc (.cells #[vi ki n1, vi ki f1, vi ki l1] 134)) := (Below.refl _ _).alloc (Nat.le_refl _) _
 have hl0 := lookup_Z (P := Tryz.prog) (t := 131) Tryz.underlying131 Tryz.underlying135 (show (zeroValue 134).run Tryz.prog _ = .ok gz _ from by kernel_rfl) (hMZ.same (hb4.block mb hMZ.lt)) 0
 rw [mpF_0] at hl0
 unfold grV at hl0
 simp only [] at hl0
 have HB4 : Hid (Below w.heap.size w (v3.alloc (.cells #[vi ki n1, vi ki f1, vi ki l1] 134))) := HB3.out.trans (hb4.mono HB3.out.size)
 clear hb4 hMZ HB3
 have hfd : ∀ W : World, (Instr.field 134 (.agg #[vi ki n0, vi ki f0, vi ki l0]) 2).run Tryz.prog W = .ok (vi ki l0) W := fun W => by kernel_rfl
 by_cases k0 : n1 = 0
 ·subst k0
  have hV : inV (⟨n0, f0, l0⟩, ⟨0, f1, l1⟩) = l0 := if_pos rfl
  have hH : inH (⟨n0, f0, l0⟩, ⟨0, f1, l1⟩) = 2 := if_pos rfl
  go_wp2_with fail
  exact bodyPost_ret (v := .tuple #[vi ki l0, vi ki 2, vi ki 0]) (by simp [results, Tryz.results40, go_sem]) rfl ⟨by rw [hV, hH], HB4.out⟩
 ·have k0' : (n1 == 0) = false := by simpa using k0
  have hV : inV (⟨n0, f0, l0⟩, ⟨n1, f1, l1⟩) = f1 := if_neg k0
  by_cases k1 : n1 = 1
  ·subst k1
   have hH : inH (⟨n0, f0, l0⟩, ⟨1, f1, l1⟩) = 0 := rfl
   go_wp2_with fail
   exact bodyPost_ret (v := .tuple #[vi ki f1, vi ki 0, vi ki 0]) (by simp [results, Tryz.results40, go_sem]) rfl ⟨by rw [hV, hH], HB4.out⟩
  ·have k1' : (n1 == 1) = false := by simpa using k1
   have hH : inH (⟨n0, f0, l0⟩, ⟨n1, f1, l1⟩) = 1 := (if_neg k0).trans (if_neg k1)
   go_wp2_with fail
   exact bodyPost_ret (v := .tuple #[vi ki f1, vi ki 1, vi ki 0]) (by simp [results, Tryz.results40, go_sem]) rfl ⟨by rw [hV, hH], HB4.out⟩
end Go.Proofs.YtklehbmghjcmaaaGreatDoor
namespace Go.Proofs.YtklehbmghjcmaaaGreatDoor
open Go.RowKit
def offB (o : Int) : Bool := decide (-57600 ≤ o) && decide (o ≤ 57600)
theorem isOff_any (o : Int) (w : World) : Calls Tryz.prog 74 #[vi ki o] w fun e w' => e = zr (.bool (offB o)) ∧ w' = w := by
 go_enter Tryz.func74, Tryz.ntmps74
 go_wp2
 all_goals (go_ret; exact ⟨by congr 2; unfold offB; by_cases a1 : -57600 ≤ o <;> by_cases a2 : o ≤ 57600 <;> simp_all <;> omega, rfl⟩)
end Go.Proofs.YtklehbmghjcmaaaGreatDoor
