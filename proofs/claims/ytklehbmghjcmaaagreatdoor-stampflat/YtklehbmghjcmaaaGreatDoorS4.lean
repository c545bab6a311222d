import Derived.Test.YtklehbmghjcmaaaGreatDoorSz
import Derived.Test.YtklehbmghjcmaaaGreatDoorS3
import Derived.RangeFuncNested
import Derived.RangeFuncLeaves
import Derived.RangeFuncBox
import Derived.OrdersHeld
import Derived.OrdersIn
import Derived.Deep.RegionHeld
open Go.Value renaming int → vi
open Go.IntKind renaming i64 → ki
open List renaming setIfInBounds_toArray → zb, set_cons_zero → zc, set_cons_succ → zd
open Go.Act renaming put → za
open Go.Ending renaming returned → zr
set_option maxRecDepth 100000
set_option maxHeartbeats 16000000
set_option linter.unusedVariables false
namespace Go.Proofs.YtklehbmghjcmaaaGreatDoor
open Go.RowKit Sr
theorem roff_run (x : TrR) (b : Bool) (hb : b = decide (-57600 ≤ x.off ∧ x.off ≤ 57600)) (w : World) :
  Calls Tryz.prog 53 #[.agg #[vi ki x.at_, vi ki x.off, .bool x.dst, .string x.ab]] w fun r w' => r = zr (.bool b) ∧ Below w.heap.size w w' := by
 have HB : Hid (Below w.heap.size w (w.alloc (.cells #[vi ki x.at_, vi ki x.off, .bool x.dst, .string x.ab] 23))) := (Below.refl _ _).alloc (Nat.le_refl _) _
 by_cases h : -57600 ≤ x.off
 ·by_cases g : x.off ≤ 57600
  ·rw [hb, decide_eq_true ⟨h, g⟩]
   go_enter Tryz.func53, Tryz.ntmps53
   go_wp2
   go_ret
   exact ⟨rfl, HB.out⟩
  ·rw [hb, decide_eq_false (fun k => g k.2)]
   go_enter Tryz.func53, Tryz.ntmps53
   go_wp2
   go_ret
   exact ⟨ret_bz (by first | (simp; done) | (simp; omega)), HB.out⟩
 ·rw [hb, decide_eq_false (fun k => h k.1)]
  go_enter Tryz.func53, Tryz.ntmps53
  go_wp2
  go_ret
  exact ⟨rfl, HB.out⟩
def curT (f : TrR) (L : List TrR) (i : Nat) : TrR := if i = 0 then f else L.getD (i - 1) f
theorem curT_succ {f x : TrR} {L : List TrR} {i : Nat} (h : L[i]? = some x) : curT f L (i + 1) = x := by
 unfold curT
 rw [if_neg (by omega), Nat.add_sub_cancel, List.getD_eq_getElem?_getD, h]; rfl
end Go.Proofs.YtklehbmghjcmaaaGreatDoor
namespace Go.Proofs.YtklehbmghjcmaaaGreatDoor
open Go.RowKit Sr
end Go.Proofs.YtklehbmghjcmaaaGreatDoor
namespace Go.Proofs.YtklehbmghjcmaaaGreatDoor
open Go.RowKit Sr
def offR (o : Int) : Bool := decide (-57600 ≤ o ∧ o ≤ 57600)
def lastA (L : List TrR) (i : Nat) : Int := if i = 0 then -1125899906842625 else (L.getD (i - 1) zTr).at_
theorem lastA_succ {L : List TrR} {i : Nat} {x : TrR} (h : L[i]? = some x) : lastA L (i + 1) = x.at_ := by
 unfold lastA
 rw [if_neg (by omega), Nat.add_sub_cancel, List.getD_eq_getElem?_getD, h]; rfl
def OkR (L : List TrR) (j : Nat) : Prop := ∃ x, L[j]? = some x ∧ offR x.off = true ∧ lastA L j < x.at_ ∧ x.at_ ≤ 1125899906842624
theorem rright_bad (nm : ByteArray) (f : TrR) (sv : Value) (FL : List Value) (hF : FL.length = 19) (L : List TrR) (h0 : f.at_ = 0) (h1 : offR f.off = true) (h4 : L.length ≤ 4096) (hbad : ∃ j, j < L.length ∧ ¬ OkR L j) (w : World) (HT : Hid (TrAt w sv L)) :
  Calls Tryz.prog 21 #[.agg (tbF nm f sv FL).toArray] w fun r w' => r = zr (.bool false) ∧ Below w.heap.size w w' := by
 have X1 : Hid (Bx (w.alloc (.cells (tbF nm f sv FL).toArray 34)) w.heap.size (tbF nm f sv FL)) := Bx.new w _ _
 have B1 : Hid (Below w.heap.size w (w.alloc (.cells (tbF nm f sv FL).toArray 34))) := (Below.refl _ _).alloc (Nat.le_refl _) _
 have OF : Hid (∀ W : World, Calls Tryz.prog 53 #[.agg #[vi ki 0, vi ki f.off, .bool f.dst, .string f.ab]] W fun r w' => r = zr (.bool true) ∧ Below W.heap.size W w') := fun W => roff_run ⟨0, f.off, f.dst, f.ab⟩ true h1.symm W
 have HBAD : Hid (∃ j, j < L.length ∧ ¬ OkR L j) := hbad
 obtain ⟨⟨ao, c, hsv⟩, hml, _⟩ := HT.out
 obtain ⟨n, hn⟩ : ∃ n, L.length = n := ⟨_, rfl⟩
 rw [hn] at hsv h4
 clear hml h1 hbad
 go_enter Tryz.func21, Tryz.ntmps21
 generalize hUA : (tbF nm f sv FL).toArray = UA at *
 go_upto_region 1 with fail
 refine gen_code (fun V => Bx V w.heap.size (tbF nm f sv FL) ∧ Below w.heap.size w V) ⟨X1.out, B1.out⟩ ?_
 clear X1 B1
 rintro V ⟨XV, BV⟩
 have r1 : V.cell? ⟨w.heap.size, 1, none⟩ = some (vi ki 0) := by have := XV.c 1 (v := vi ki f.at_) rfl; rw [h0] at this; exact this
 have r2 : V.cell? ⟨w.heap.size, 2, none⟩ = some (vi ki f.off) := XV.c 2 rfl
 have r3 : V.cell? ⟨w.heap.size, 3, none⟩ = some (.bool f.dst) := XV.c 3 rfl
 have r4 : V.cell? ⟨w.heap.size, 4, none⟩ = some (.string f.ab) := XV.c 4 rfl
 have HX : Hid (Bx V w.heap.size (tbF nm f sv FL)) := XV
 have HB : Hid (Below w.heap.size w V) := BV
 clear XV BV
 go_wp2_with fail
 refine (OF.out _).mono ?_
 rintro e v1 ⟨rfl, hb⟩
 have HX1 : Hid (Bx v1 w.heap.size (tbF nm f sv FL)) := HX.out.below hb
 have HB1 : Hid (Below w.heap.size w v1) := HB.out.trans (hb.mono HB.out.size)
 clear hb HX HB r1 r2 r3 r4 OF
 have q1 : v1.cell? ⟨w.heap.size, 1, none⟩ = some (vi ki 0) := by have := HX1.out.c 1 (v := vi ki f.at_) rfl; rw [h0] at this; exact this
 have q5 : v1.cell? ⟨w.heap.size, 5, none⟩ = some (.slice ao n c) := by have := HX1.out.c 5 (v := sv) rfl; rw [hsv] at this; exact this
 go_wp2_with fail
 go_loopw [3, 4] (fun lv iv wr => ∃ i : Nat, i ≤ n ∧ iv = vi ki (i : Int) ∧ lv = vi ki (lastA L i) ∧ Hid (∀ j, j < i → OkR L j) ∧ Hid (Bx wr w.heap.size (tbF nm f sv FL)) ∧ Hid (Below w.heap.size w wr)) (fun _ iv _ => n - (intOf iv).toNat)
 case atStart => exact ⟨0, Nat.zero_le _, rfl, rfl, fun j hj => absurd hj (Nat.not_lt_zero _), HX1, HB1⟩
 case round =>
  clear HX1 HB1 q1 q5
  obtain ⟨i, hi, rfl, rfl, HOK, HX, HB⟩ := hrel
  have q5 : wr.cell? ⟨w.heap.size, 5, none⟩ = some (.slice ao n c) := by have := HX.out.c 5 (v := sv) rfl; rw [hsv] at this; exact this
  by_cases hin : i < n
  ·obtain ⟨x, hx⟩ : ∃ x, L[i]? = some x := ⟨_, List.getElem?_eq_getElem (by omega)⟩
   obtain ⟨g, o, c', hsv', hrg⟩ := (HT.out.mv HB.out).row hx
   rw [hn, hsv] at hsv'
   simp only [Value.slice.injEq, true_and] at hsv'
   obtain ⟨rfl, rfl⟩ := hsv'
   have HRG : Hid (wr.rangeAt g (o + i * 4) (trC x)) := hrg
   have HXn : Hid (Bx (wr.alloc (.cells #[vi ki x.at_, vi ki x.off, .bool x.dst, .string x.ab] 23)) w.heap.size (tbF nm f sv FL)) := HX.out.alloc _
   have HZn : Hid (Bx (wr.alloc (.cells #[vi ki x.at_, vi ki x.off, .bool x.dst, .string x.ab] 23)) wr.heap.size [vi ki x.at_, vi ki x.off, .bool x.dst, .string x.ab]) := Bx.new wr [vi ki x.at_, vi ki x.off, .bool x.dst, .string x.ab] _
   have HBn : Hid (Below w.heap.size w (wr.alloc (.cells #[vi ki x.at_, vi ki x.off, .bool x.dst, .string x.ab] 23))) := HB.out.alloc HB.out.size _
   have HLS : Hid (lastA L (i + 1) = x.at_) := lastA_succ hx
   have HOX : Hid (offR x.off = true → lastA L i < x.at_ → x.at_ ≤ 1125899906842624 → OkR L i) := fun a b c => ⟨x, hx, a, b, c⟩
   obtain ⟨la, hla⟩ : ∃ la, la = lastA L i := ⟨_, rfl⟩
   rw [← hla] at HOX ⊢
   clear hrg hx HX HB hla
   go_upto_region 8 with (first | (refine wpList_load_mid rfl 23 _ rfl g (o + i * 4) rfl [vi ki x.at_, vi ki x.off, .bool x.dst, .string x.ab] _ HRG.out Tryz.underlying23 rfl (by kernel_rfl) ?_) | fail)
   refine gen_code (fun V => Bx V w.heap.size (tbF nm f sv FL) ∧ Bx V wr.heap.size [vi ki x.at_, vi ki x.off, .bool x.dst, .string x.ab] ∧ Below w.heap.size w V) ⟨HXn.out, HZn.out, HBn.out⟩ ?_
   clear HXn HZn HBn HRG q5
   rintro V9 ⟨XV, ZV, BV⟩
   have OX : Hid (∀ W : World, Calls Tryz.prog 53 #[.agg #[vi ki x.at_, vi ki x.off, .bool x.dst, .string x.ab]] W fun r w' => r = zr (.bool (offR x.off)) ∧ Below W.heap.size W w') := fun W => roff_run x _ rfl W
   have z0 : V9.cell? ⟨wr.heap.size, 0, none⟩ = some (vi ki x.at_) := ZV.c 0 rfl
   have z1 : V9.cell? ⟨wr.heap.size, 1, none⟩ = some (vi ki x.off) := ZV.c 1 rfl
   have z2 : V9.cell? ⟨wr.heap.size, 2, none⟩ = some (.bool x.dst) := ZV.c 2 rfl
   have z3 : V9.cell? ⟨wr.heap.size, 3, none⟩ = some (.string x.ab) := ZV.c 3 rfl
   have HX9 : Hid (Bx V9 w.heap.size (tbF nm f sv FL)) := XV
   have HZ9 : Hid (Bx V9 wr.heap.size [vi ki x.at_, vi ki x.off, .bool x.dst, .string x.ab]) := ZV
   have HB9 : Hid (Below w.heap.size w V9) := BV
   clear XV ZV BV
   go_wp2_with fail
   refine (OX.out _).mono ?_
   rintro e v2 ⟨rfl, hb⟩
   have HX2 : Hid (Bx v2 w.heap.size (tbF nm f sv FL)) := HX9.out.below hb
   have y0 : v2.cell? ⟨wr.heap.size, 0, none⟩ = some (vi ki x.at_) := (HZ9.out.below hb).c 0 rfl
   have HB2 : Hid (Below w.heap.size w v2) := HB9.out.trans (hb.mono HB9.out.size)
   clear hb HX9 HZ9 HB9 z0 z1 z2 z3 OX
   cases ho : offR x.off
   ·clear HOX HLS HOK HX2
    go_wp2_with fail
    go_ret
    exact ⟨rfl, HB2.out⟩
   ·by_cases h5 : x.at_ ≤ la
    ·clear HOX HLS HOK HX2
     go_wp2_with fail
     go_ret
     exact ⟨rfl, HB2.out⟩
    ·by_cases h6 : 1125899906842624 < x.at_
     ·clear HOX HLS HOK HX2
      go_wp2_with fail
      go_ret
      exact ⟨rfl, HB2.out⟩
     ·have HOK' : Hid (∀ j, j < i + 1 → OkR L j) := fun j hj => by
       by_cases e : j = i
       ·rw [e]; exact HOX.out ho (by omega) (by omega)
       ·exact HOK.out j (by omega)
      clear HOX HOK
      go_wp2_with fail
      exact ⟨⟨i + 1, by omega, by simp, by rw [HLS.out], HOK', HX2, HB2⟩, by simp [intOf]; omega⟩
  ·exfalso
   obtain ⟨j, hj, hk⟩ := HBAD.out
   exact hk (HOK.out j (by omega))
end Go.Proofs.YtklehbmghjcmaaaGreatDoor
namespace Go.Proofs.YtklehbmghjcmaaaGreatDoor
open Go.RowKit Sr
theorem rright_has (nm : ByteArray) (f : TrR) (sv : Value) (FL : List Value) (hF : FL.length = 19) (L : List TrR) (h0 : f.at_ = 0) (h1 : offR f.off = true) (h4 : L.length ≤ 4096) (hok : ∀ j, j < L.length → OkR L j) (fr y er : Int) (p : TrR) (b : Bool) (hb9 : b = decide (er = 0 ∧ p.at_ = fr ∧ lastA L L.length < fr ∧ 1800 ≤ y ∧ y ≤ 2110)) (f0 : FL[0]? = some (.bool true)) (f1 : FL[1]? = some (vi ki fr)) (w : World) (HT : Hid (TrAt w sv L))
  (YA : Hid (∀ W : World, Below w.heap.size w W → Calls Tryz.prog 54 #[vi ki fr] W fun r w' => r = zr (vi ki y) ∧ Below W.heap.size W w'))
  (FA : Hid (∀ W : World, Below w.heap.size w W → Calls Tryz.prog 55 #[.agg FL.toArray, vi ki fr] W fun r w' => r = zr (.tuple #[.agg #[vi ki p.at_, vi ki p.off, .bool p.dst, .string p.ab], vi ki er]) ∧ Below W.heap.size W w')) :
  Calls Tryz.prog 21 #[.agg (tbF nm f sv FL).toArray] w fun r w' => r = zr (.bool b) ∧ Below w.heap.size w w' := by
 have X1 : Hid (Bx (w.alloc (.cells (tbF nm f sv FL).toArray 34)) w.heap.size (tbF nm f sv FL)) := Bx.new w _ _
 have B1 : Hid (Below w.heap.size w (w.alloc (.cells (tbF nm f sv FL).toArray 34))) := (Below.refl _ _).alloc (Nat.le_refl _) _
 have OF : Hid (∀ W : World, Calls Tryz.prog 53 #[.agg #[vi ki 0, vi ki f.off, .bool f.dst, .string f.ab]] W fun r w' => r = zr (.bool true) ∧ Below W.heap.size W w') := fun W => roff_run ⟨0, f.off, f.dst, f.ab⟩ true h1.symm W
 have HALL : Hid (∀ j, j < L.length → OkR L j) := hok
 have HB9 : Hid (b = decide (er = 0 ∧ p.at_ = fr ∧ lastA L L.length < fr ∧ 1800 ≤ y ∧ y ≤ 2110)) := hb9
 obtain ⟨⟨ao, c, hsv⟩, hml, _⟩ := HT.out
 obtain ⟨n, hn⟩ : ∃ n, L.length = n := ⟨_, rfl⟩
 rw [hn] at hsv h4
 clear hml h1 hok hb9
 go_enter Tryz.func21, Tryz.ntmps21
 generalize hUA : (tbF nm f sv FL).toArray = UA at *
 go_upto_region 1 with fail
 refine gen_code (fun V => Bx V w.heap.size (tbF nm f sv FL) ∧ Below w.heap.size w V) ⟨X1.out, B1.out⟩ ?_
 clear X1 B1
 rintro V ⟨XV, BV⟩
 have r1 : V.cell? ⟨w.heap.size, 1, none⟩ = some (vi ki 0) := by have := XV.c 1 (v := vi ki f.at_) rfl; rw [h0] at this; exact this
 have r2 : V.cell? ⟨w.heap.size, 2, none⟩ = some (vi ki f.off) := XV.c 2 rfl
 have r3 : V.cell? ⟨w.heap.size, 3, none⟩ = some (.bool f.dst) := XV.c 3 rfl
 have r4 : V.cell? ⟨w.heap.size, 4, none⟩ = some (.string f.ab) := XV.c 4 rfl
 have HX : Hid (Bx V w.heap.size (tbF nm f sv FL)) := XV
 have HB : Hid (Below w.heap.size w V) := BV
 clear XV BV
 go_wp2_with fail
 refine (OF.out _).mono ?_
 rintro e v1 ⟨rfl, hb⟩
 have HX1 : Hid (Bx v1 w.heap.size (tbF nm f sv FL)) := HX.out.below hb
 have HB1 : Hid (Below w.heap.size w v1) := HB.out.trans (hb.mono HB.out.size)
 clear hb HX HB r1 r2 r3 r4 OF
 have q1 : v1.cell? ⟨w.heap.size, 1, none⟩ = some (vi ki 0) := by have := HX1.out.c 1 (v := vi ki f.at_) rfl; rw [h0] at this; exact this
 have q5 : v1.cell? ⟨w.heap.size, 5, none⟩ = some (.slice ao n c) := by have := HX1.out.c 5 (v := sv) rfl; rw [hsv] at this; exact this
 go_wp2_with fail
 go_loopw [3, 4] (fun lv iv wr => ∃ i : Nat, i ≤ n ∧ iv = vi ki (i : Int) ∧ lv = vi ki (lastA L i) ∧ Hid (∀ j, j < i → OkR L j) ∧ Hid (Bx wr w.heap.size (tbF nm f sv FL)) ∧ Hid (Below w.heap.size w wr)) (fun _ iv _ => n - (intOf iv).toNat)
 case atStart => exact ⟨0, Nat.zero_le _, rfl, rfl, fun j hj => absurd hj (Nat.not_lt_zero _), HX1, HB1⟩
 case round =>
  clear HX1 HB1 q1 q5
  obtain ⟨i, hi, rfl, rfl, HOK, HX, HB⟩ := hrel
  have q5 : wr.cell? ⟨w.heap.size, 5, none⟩ = some (.slice ao n c) := by have := HX.out.c 5 (v := sv) rfl; rw [hsv] at this; exact this
  by_cases hin : i < n
  ·obtain ⟨x, hx, ho, h5', h6⟩ := HALL.out i (by omega)
   obtain ⟨g, o, c', hsv', hrg⟩ := (HT.out.mv HB.out).row hx
   rw [hn, hsv] at hsv'
   simp only [Value.slice.injEq, true_and] at hsv'
   obtain ⟨rfl, rfl⟩ := hsv'
   have HRG : Hid (wr.rangeAt g (o + i * 4) (trC x)) := hrg
   have HXn : Hid (Bx (wr.alloc (.cells #[vi ki x.at_, vi ki x.off, .bool x.dst, .string x.ab] 23)) w.heap.size (tbF nm f sv FL)) := HX.out.alloc _
   have HZn : Hid (Bx (wr.alloc (.cells #[vi ki x.at_, vi ki x.off, .bool x.dst, .string x.ab] 23)) wr.heap.size [vi ki x.at_, vi ki x.off, .bool x.dst, .string x.ab]) := Bx.new wr [vi ki x.at_, vi ki x.off, .bool x.dst, .string x.ab] _
   have HBn : Hid (Below w.heap.size w (wr.alloc (.cells #[vi ki x.at_, vi ki x.off, .bool x.dst, .string x.ab] 23))) := HB.out.alloc HB.out.size _
   have HLS : Hid (lastA L (i + 1) = x.at_) := lastA_succ hx
   have HOI : Hid (OkR L i) := ⟨x, hx, ho, h5', h6⟩
   obtain ⟨la, hla⟩ : ∃ la, la = lastA L i := ⟨_, rfl⟩
   rw [← hla] at h5' ⊢
   clear hrg hx HX HB hla
   go_upto_region 8 with (first | (refine wpList_load_mid rfl 23 _ rfl g (o + i * 4) rfl [vi ki x.at_, vi ki x.off, .bool x.dst, .string x.ab] _ HRG.out Tryz.underlying23 rfl (by kernel_rfl) ?_) | fail)
   refine gen_code (fun V => Bx V w.heap.size (tbF nm f sv FL) ∧ Bx V wr.heap.size [vi ki x.at_, vi ki x.off, .bool x.dst, .string x.ab] ∧ Below w.heap.size w V) ⟨HXn.out, HZn.out, HBn.out⟩ ?_
   clear HXn HZn HBn HRG q5
   rintro V9 ⟨XV, ZV, BV⟩
   have OX : Hid (∀ W : World, Calls Tryz.prog 53 #[.agg #[vi ki x.at_, vi ki x.off, .bool x.dst, .string x.ab]] W fun r w' => r = zr (.bool true) ∧ Below W.heap.size W w') := fun W => roff_run x true ho.symm W
   have z0 : V9.cell? ⟨wr.heap.size, 0, none⟩ = some (vi ki x.at_) := ZV.c 0 rfl
   have z1 : V9.cell? ⟨wr.heap.size, 1, none⟩ = some (vi ki x.off) := ZV.c 1 rfl
   have z2 : V9.cell? ⟨wr.heap.size, 2, none⟩ = some (.bool x.dst) := ZV.c 2 rfl
   have z3 : V9.cell? ⟨wr.heap.size, 3, none⟩ = some (.string x.ab) := ZV.c 3 rfl
   have HX9 : Hid (Bx V9 w.heap.size (tbF nm f sv FL)) := XV
   have HZ9 : Hid (Bx V9 wr.heap.size [vi ki x.at_, vi ki x.off, .bool x.dst, .string x.ab]) := ZV
   have HB9 : Hid (Below w.heap.size w V9) := BV
   clear XV ZV BV
   go_wp2_with fail
   refine (OX.out _).mono ?_
   rintro e v2 ⟨rfl, hb⟩
   have HX2 : Hid (Bx v2 w.heap.size (tbF nm f sv FL)) := HX9.out.below hb
   have y0 : v2.cell? ⟨wr.heap.size, 0, none⟩ = some (vi ki x.at_) := (HZ9.out.below hb).c 0 rfl
   have HB2 : Hid (Below w.heap.size w v2) := HB9.out.trans (hb.mono HB9.out.size)
   clear hb HX9 HZ9 HB9 z0 z1 z2 z3 OX
   have h5 : ¬ x.at_ ≤ la := by omega
   have h7 : ¬ 1125899906842624 < x.at_ := by omega
   have HOK' : Hid (∀ j, j < i + 1 → OkR L j) := fun j hj => by
    by_cases e : j = i
    ·rw [e]; exact HOI.out
    ·exact HOK.out j (by omega)
   clear HOI HOK ho h5' h6
   go_wp2_with fail
   exact ⟨⟨i + 1, by omega, by simp, by rw [HLS.out], HOK', HX2, HB2⟩, by simp [intOf]; omega⟩
  ·have HLN : Hid (lastA L L.length = lastA L i) := by rw [hn, show i = n by omega]; rfl
   rw [HLN.out] at HB9
   obtain ⟨la, hla⟩ : ∃ la, la = lastA L i := ⟨_, rfl⟩
   rw [← hla] at HB9 ⊢
   have q6 : wr.cell? ⟨w.heap.size, 6, none⟩ = some (.bool true) := HX.out.c 6 ((tbF_foot 0).trans f0)
   have q7 : wr.cell? ⟨w.heap.size, 7, none⟩ = some (vi ki fr) := HX.out.c 7 ((tbF_foot 1).trans f1)
   clear HLN hla HOK HALL
   go_wp2_with fail
   refine (YA.out _ HB.out).mono ?_
   rintro e v3 ⟨rfl, hb⟩
   have HX3 : Hid (Bx v3 w.heap.size (tbF nm f sv FL)) := HX.out.below hb
   have HB3 : Hid (Below w.heap.size w v3) := HB.out.trans (hb.mono HB.out.size)
   have HR : Hid (v3.rangeAt w.heap.size 6 FL) := fun j v hv => (HX3.out.2 (6 + j) v ((tbF_foot j).trans hv)).1
   have u7 : v3.cell? ⟨w.heap.size, 7, none⟩ = some (vi ki fr) := HX3.out.c 7 ((tbF_foot 1).trans f1)
   clear hb HX HB q5 q6 q7 YA
   go_wp2_with (first | (refine wpList_load_mid rfl 32 _ rfl w.heap.size 6 rfl FL _ HR.out Tryz.underlying32 rfl (by rw [hF]; kernel_rfl) ?_) | fail)
   refine (FA.out _ HB3.out).mono ?_
   rintro e v4 ⟨rfl, hb⟩
   have HX4 : Hid (Bx (v4.alloc (.cells #[vi ki p.at_, vi ki p.off, .bool p.dst, .string p.ab] 23)) w.heap.size (tbF nm f sv FL)) := (HX3.out.below hb).alloc _
   have HZ4 : Hid (Bx (v4.alloc (.cells #[vi ki p.at_, vi ki p.off, .bool p.dst, .string p.ab] 23)) v4.heap.size [vi ki p.at_, vi ki p.off, .bool p.dst, .string p.ab]) := Bx.new v4 [vi ki p.at_, vi ki p.off, .bool p.dst, .string p.ab] _
   have HB4 : Hid (Below w.heap.size w (v4.alloc (.cells #[vi ki p.at_, vi ki p.off, .bool p.dst, .string p.ab] 23))) := (HB3.out.trans (hb.mono HB3.out.size)).alloc (HB3.out.trans (hb.mono HB3.out.size)).size _
   clear hb HX3 HB3 HR u7 FA
   go_upto_region 16 with fail
   refine gen_code (fun V => Bx V w.heap.size (tbF nm f sv FL) ∧ Bx V v4.heap.size [vi ki p.at_, vi ki p.off, .bool p.dst, .string p.ab] ∧ Below w.heap.size w V) ⟨HX4.out, HZ4.out, HB4.out⟩ ?_
   clear HX4 HZ4 HB4
   rintro V5 ⟨XV, ZV, BV⟩
   have s7 : V5.cell? ⟨w.heap.size, 7, none⟩ = some (vi ki fr) := XV.c 7 ((tbF_foot 1).trans f1)
   have s0 : V5.cell? ⟨v4.heap.size, 0, none⟩ = some (vi ki p.at_) := ZV.c 0 rfl
   have HB5 : Hid (Below w.heap.size w V5) := BV
   clear XV ZV BV
   by_cases k1 : er = 0
   ·by_cases k2 : p.at_ = fr
    ·by_cases k3 : la < fr
     ·by_cases k4 : 1800 ≤ y
      ·by_cases k5 : y ≤ 2110
       ·have HE : Hid (b = true) := HB9.out.trans (decide_eq_true ⟨k1, k2, k3, k4, k5⟩)
        have g1 : (er == 0) = true := by simpa using k1
        have g2 : (p.at_ == fr) = true := by simpa using k2
        clear HB9 k1 k2
        go_wp2_with fail
        go_ret
        exact ⟨ret_bz (by rw [HE.out]), HB5.out⟩
       ·have HE : Hid (b = false) := HB9.out.trans (decide_eq_false (fun q => k5 q.2.2.2.2))
        have g1 : (er == 0) = true := by simpa using k1
        have g2 : (p.at_ == fr) = true := by simpa using k2
        clear HB9 k1 k2
        go_wp2_with fail
        go_ret
        exact ⟨ret_bz (by rw [HE.out]), HB5.out⟩
      ·have HE : Hid (b = false) := HB9.out.trans (decide_eq_false (fun q => k4 q.2.2.2.1))
       have g1 : (er == 0) = true := by simpa using k1
       have g2 : (p.at_ == fr) = true := by simpa using k2
       clear HB9 k1 k2
       go_wp2_with fail
       go_ret
       exact ⟨ret_bz (by rw [HE.out]), HB5.out⟩
     ·have HE : Hid (b = false) := HB9.out.trans (decide_eq_false (fun q => k3 q.2.2.1))
      have g1 : (er == 0) = true := by simpa using k1
      have g2 : (p.at_ == fr) = true := by simpa using k2
      clear HB9 k1 k2
      go_wp2_with fail
      go_ret
      exact ⟨ret_bz (by rw [HE.out]), HB5.out⟩
    ·have HE : Hid (b = false) := HB9.out.trans (decide_eq_false (fun q => k2 q.2.1))
     have g1 : (er == 0) = true := by simpa using k1
     have g2 : (p.at_ == fr) = false := by simpa using k2
     clear HB9 k1 k2
     go_wp2_with fail
     go_ret
     exact ⟨ret_bz (by rw [HE.out]), HB5.out⟩
   ·have HE : Hid (b = false) := HB9.out.trans (decide_eq_false (fun q => k1 q.1))
    have g1 : (er == 0) = false := by simpa using k1
    clear HB9 k1
    go_wp2_with fail
    go_ret
    exact ⟨ret_bz (by rw [HE.out]), HB5.out⟩
end Go.Proofs.YtklehbmghjcmaaaGreatDoor
namespace Go.Proofs.YtklehbmghjcmaaaGreatDoor
open Go.RowKit Sr
theorem rright_no1 (nm : ByteArray) (f : TrR) (sv : Value) (FL : List Value) (hF : FL.length = 19) (h1 : offR f.off = false) (ao : Option Addr) (n c : Nat) (hsv : sv = .slice ao n c) (w : World) :
  Calls Tryz.prog 21 #[.agg (tbF nm f sv FL).toArray] w fun r w' => r = zr (.bool false) ∧ Below w.heap.size w w' := by
 have X1 : Hid (Bx (w.alloc (.cells (tbF nm f sv FL).toArray 34)) w.heap.size (tbF nm f sv FL)) := Bx.new w _ _
 have B1 : Hid (Below w.heap.size w (w.alloc (.cells (tbF nm f sv FL).toArray 34))) := (Below.refl _ _).alloc (Nat.le_refl _) _
 have OF : Hid (∀ W : World, Calls Tryz.prog 53 #[.agg #[vi ki f.at_, vi ki f.off, .bool f.dst, .string f.ab]] W fun r w' => r = zr (.bool false) ∧ Below W.heap.size W w') := fun W => roff_run f false h1.symm W
 clear h1
 go_enter Tryz.func21, Tryz.ntmps21
 generalize hUA : (tbF nm f sv FL).toArray = UA at *
 go_upto_region 1 with fail
 refine gen_code (fun V => Bx V w.heap.size (tbF nm f sv FL) ∧ Below w.heap.size w V) ⟨X1.out, B1.out⟩ ?_
 clear X1 B1
 rintro V ⟨XV, BV⟩
 have r1 : V.cell? ⟨w.heap.size, 1, none⟩ = some (vi ki f.at_) := XV.c 1 rfl
 have r2 : V.cell? ⟨w.heap.size, 2, none⟩ = some (vi ki f.off) := XV.c 2 rfl
 have r3 : V.cell? ⟨w.heap.size, 3, none⟩ = some (.bool f.dst) := XV.c 3 rfl
 have r4 : V.cell? ⟨w.heap.size, 4, none⟩ = some (.string f.ab) := XV.c 4 rfl
 have HX : Hid (Bx V w.heap.size (tbF nm f sv FL)) := XV
 have HB : Hid (Below w.heap.size w V) := BV
 clear XV BV
 go_wp2_with fail
 refine (OF.out _).mono ?_
 rintro e v1 ⟨rfl, hb⟩
 have q1 : v1.cell? ⟨w.heap.size, 1, none⟩ = some (vi ki f.at_) := (HX.out.below hb).c 1 rfl
 have q5 : v1.cell? ⟨w.heap.size, 5, none⟩ = some (.slice ao n c) := by have := (HX.out.below hb).c 5 (v := sv) rfl; rw [hsv] at this; exact this
 have HB1 : Hid (Below w.heap.size w v1) := HB.out.trans (hb.mono HB.out.size)
 clear hb HX HB r1 r2 r3 r4 OF
 go_wp2_with fail
 go_ret
 exact ⟨rfl, HB1.out⟩
theorem rright_no2 (nm : ByteArray) (f : TrR) (sv : Value) (FL : List Value) (hF : FL.length = 19) (h1 : offR f.off = true) (h0 : f.at_ ≠ 0) (ao : Option Addr) (n c : Nat) (hsv : sv = .slice ao n c) (w : World) :
  Calls Tryz.prog 21 #[.agg (tbF nm f sv FL).toArray] w fun r w' => r = zr (.bool false) ∧ Below w.heap.size w w' := by
 have X1 : Hid (Bx (w.alloc (.cells (tbF nm f sv FL).toArray 34)) w.heap.size (tbF nm f sv FL)) := Bx.new w _ _
 have B1 : Hid (Below w.heap.size w (w.alloc (.cells (tbF nm f sv FL).toArray 34))) := (Below.refl _ _).alloc (Nat.le_refl _) _
 have OF : Hid (∀ W : World, Calls Tryz.prog 53 #[.agg #[vi ki f.at_, vi ki f.off, .bool f.dst, .string f.ab]] W fun r w' => r = zr (.bool true) ∧ Below W.heap.size W w') := fun W => roff_run f true h1.symm W
 clear h1
 have g0 : (f.at_ != 0) = true := bne_iff_ne.2 h0
 go_enter Tryz.func21, Tryz.ntmps21
 generalize hUA : (tbF nm f sv FL).toArray = UA at *
 go_upto_region 1 with fail
 refine gen_code (fun V => Bx V w.heap.size (tbF nm f sv FL) ∧ Below w.heap.size w V) ⟨X1.out, B1.out⟩ ?_
 clear X1 B1
 rintro V ⟨XV, BV⟩
 have r1 : V.cell? ⟨w.heap.size, 1, none⟩ = some (vi ki f.at_) := XV.c 1 rfl
 have r2 : V.cell? ⟨w.heap.size, 2, none⟩ = some (vi ki f.off) := XV.c 2 rfl
 have r3 : V.cell? ⟨w.heap.size, 3, none⟩ = some (.bool f.dst) := XV.c 3 rfl
 have r4 : V.cell? ⟨w.heap.size, 4, none⟩ = some (.string f.ab) := XV.c 4 rfl
 have HX : Hid (Bx V w.heap.size (tbF nm f sv FL)) := XV
 have HB : Hid (Below w.heap.size w V) := BV
 clear XV BV
 go_wp2_with fail
 refine (OF.out _).mono ?_
 rintro e v1 ⟨rfl, hb⟩
 have q1 : v1.cell? ⟨w.heap.size, 1, none⟩ = some (vi ki f.at_) := (HX.out.below hb).c 1 rfl
 have q5 : v1.cell? ⟨w.heap.size, 5, none⟩ = some (.slice ao n c) := by have := (HX.out.below hb).c 5 (v := sv) rfl; rw [hsv] at this; exact this
 have HB1 : Hid (Below w.heap.size w v1) := HB.out.trans (hb.mono HB.out.size)
 clear hb HX HB r1 r2 r3 r4 OF
 go_wp2_with fail
 go_ret
 exact ⟨rfl, HB1.out⟩
theorem rright_no3 (nm : ByteArray) (f : TrR) (sv : Value) (FL : List Value) (hF : FL.length = 19) (h1 : offR f.off = true) (h0 : f.at_ = 0) (L : List TrR) (h4 : 4096 < L.length) (hm : L.length ≤ maxLen) (ao : Option Addr) (n c : Nat) (hsv : sv = .slice ao n c) (hn : L.length = n) (w : World) :
  Calls Tryz.prog 21 #[.agg (tbF nm f sv FL).toArray] w fun r w' => r = zr (.bool false) ∧ Below w.heap.size w w' := by
 have X1 : Hid (Bx (w.alloc (.cells (tbF nm f sv FL).toArray 34)) w.heap.size (tbF nm f sv FL)) := Bx.new w _ _
 have B1 : Hid (Below w.heap.size w (w.alloc (.cells (tbF nm f sv FL).toArray 34))) := (Below.refl _ _).alloc (Nat.le_refl _) _
 have OF : Hid (∀ W : World, Calls Tryz.prog 53 #[.agg #[vi ki f.at_, vi ki f.off, .bool f.dst, .string f.ab]] W fun r w' => r = zr (.bool true) ∧ Below W.heap.size W w') := fun W => roff_run f true h1.symm W
 clear h1
 unfold maxLen at hm
 rw [hn] at h4 hm
 have g0 : (f.at_ != 0) = false := by simpa using h0
 have g4 : (4096 : Int) < (n : Int) := by omega
 clear h0
 go_enter Tryz.func21, Tryz.ntmps21
 generalize hUA : (tbF nm f sv FL).toArray = UA at *
 go_upto_region 1 with fail
 refine gen_code (fun V => Bx V w.heap.size (tbF nm f sv FL) ∧ Below w.heap.size w V) ⟨X1.out, B1.out⟩ ?_
 clear X1 B1
 rintro V ⟨XV, BV⟩
 have r1 : V.cell? ⟨w.heap.size, 1, none⟩ = some (vi ki f.at_) := XV.c 1 rfl
 have r2 : V.cell? ⟨w.heap.size, 2, none⟩ = some (vi ki f.off) := XV.c 2 rfl
 have r3 : V.cell? ⟨w.heap.size, 3, none⟩ = some (.bool f.dst) := XV.c 3 rfl
 have r4 : V.cell? ⟨w.heap.size, 4, none⟩ = some (.string f.ab) := XV.c 4 rfl
 have HX : Hid (Bx V w.heap.size (tbF nm f sv FL)) := XV
 have HB : Hid (Below w.heap.size w V) := BV
 clear XV BV
 go_wp2_with fail
 refine (OF.out _).mono ?_
 rintro e v1 ⟨rfl, hb⟩
 have q1 : v1.cell? ⟨w.heap.size, 1, none⟩ = some (vi ki f.at_) := (HX.out.below hb).c 1 rfl
 have q5 : v1.cell? ⟨w.heap.size, 5, none⟩ = some (.slice ao n c) := by have := (HX.out.below hb).c 5 (v := sv) rfl; rw [hsv] at this; exact this
 have HB1 : Hid (Below w.heap.size w v1) := HB.out.trans (hb.mono HB.out.size)
 clear hb HX HB r1 r2 r3 r4 OF
 go_wp2_with fail
 go_ret
 exact ⟨rfl, HB1.out⟩
theorem rises_of : ∀ (L : List TrR), (∀ j p x, L[j]? = some p → L[j + 1]? = some x → p.at_ < x.at_) → Zm.Rises (L.map (·.at_))
 | [], _ => trivial
 | [_], _ => trivial
 | a :: b :: l, h => ⟨h 0 a b rfl rfl, rises_of (b :: l) (fun j p x hp hx => h (j + 1) p x hp hx)⟩
end Go.Proofs.YtklehbmghjcmaaaGreatDoor
namespace Go.Proofs.YtklehbmghjcmaaaGreatDoor
open Go.RowKit Sr
def atP (b : Bool) (y : Int) (has : Bool) (fr t : Int) (f : TrR) (L : List TrR) (px : TrR) : TrR := if b = true then (if askY y = true then (if has = true ∧ fr ≤ t then px else curT f L (Zm.cntLe t (L.map (·.at_)))) else zTr) else zTr
def atE (b : Bool) (y : Int) : Int := if b = true then (if askY y = true then 0 else 10) else 1
abbrev trV (x : TrR) : Value := .agg #[vi ki x.at_, vi ki x.off, .bool x.dst, .string x.ab]
theorem cnt_get {t : Int} {L : List TrR} {k : Nat} (h : Zm.cntLe t (L.map (·.at_)) = k + 1) : ∃ x, L[k]? = some x := by
 have := Zm.cntLe_le t (L.map (·.at_))
 rw [List.length_map, h] at this
 exact ⟨_, List.getElem?_eq_getElem (by omega)⟩
theorem stand_any (nm : ByteArray) (f : TrR) (sv : Value) (FL : List Value) (hF : FL.length = 19) (has : Bool) (fr t : Int) (f0 : FL[0]? = some (.bool has)) (f1 : FL[1]? = some (vi ki fr)) (L : List TrR) (hr : Zm.Rises (L.map (·.at_))) (h4 : L.length ≤ 4096) (px : TrR) (er : Int) (w : World) (HT : TrAt w sv L)
  (FA : has = true → fr ≤ t → ∀ W : World, Below w.heap.size w W → Calls Tryz.prog 125 #[.agg FL.toArray, vi ki t] W fun r w' => r = zr (.tuple #[trV px, vi ki er]) ∧ Below W.heap.size W w') :
  Calls Tryz.prog 79 #[.agg (tbF nm f sv FL).toArray, vi ki t] w fun r w' => r = zr (trV (if has = true ∧ fr ≤ t then px else curT f L (Zm.cntLe t (L.map (·.at_))))) ∧ Below w.heap.size w w' := by
 have BH : ∀ W : World, Below w.heap.size w W → Calls Tryz.prog 127 #[.agg (tbF nm f sv FL).toArray, vi ki t] W fun r w' => r = zr (vi ki (Zm.cntLe t (L.map (·.at_)) : Int)) ∧ Below W.heap.size W w' := fun W hb => behind_any _ (tbF_len hF) L sv rfl t hr h4 W (HT.mv hb)
 cases hc : Zm.cntLe t (L.map (·.at_)) with
 | zero =>
  rw [hc] at BH
  cases has with
  | false => rw [if_neg (fun q => absurd q.1 (by decide))]; exact stand_first_n nm f sv FL hF fr t f0 f1 w BH
  | true =>
   by_cases hy : fr ≤ t
   ·rw [if_pos ⟨rfl, hy⟩]; exact stand_foot nm f sv FL hF fr t f0 f1 hy px er w (FA rfl hy)
   ·rw [if_neg (fun q => hy q.2)]; exact stand_first_e nm f sv FL hF fr t f0 f1 hy w BH
 | succ k =>
  rw [hc] at BH
  obtain ⟨x, hx⟩ := cnt_get hc
  rw [curT_succ hx]
  cases has with
  | false => rw [if_neg (fun q => absurd q.1 (by decide))]; exact stand_tr_n nm f sv FL hF fr t f0 f1 L h4 k x hx w HT BH
  | true =>
   by_cases hy : fr ≤ t
   ·rw [if_pos ⟨rfl, hy⟩]; exact stand_foot nm f sv FL hF fr t f0 f1 hy px er w (FA rfl hy)
   ·rw [if_neg (fun q => hy q.2)]; exact stand_tr_e nm f sv FL hF fr t f0 f1 hy L h4 k x hx w HT BH
theorem zat_any (nm : ByteArray) (f : TrR) (sv : Value) (FL : List Value) (hF : FL.length = 19) (has : Bool) (fr t : Int) (f0 : FL[0]? = some (.bool has)) (f1 : FL[1]? = some (vi ki fr)) (L : List TrR) (b : Bool) (hr : b = true → Zm.Rises (L.map (·.at_)) ∧ L.length ≤ 4096) (y : Int) (px : TrR) (er : Int) (w : World) (HT : TrAt w sv L)
  (RT : ∀ W : World, Below w.heap.size w W → Calls Tryz.prog 31 #[.agg (tbF nm f sv FL).toArray] W fun r w' => r = zr (.bool b) ∧ Below W.heap.size W w')
  (YA : ∀ W : World, Below w.heap.size w W → Calls Tryz.prog 124 #[vi ki t] W fun r w' => r = zr (vi ki y) ∧ w' = W)
  (FA : b = true → askY y = true → has = true → fr ≤ t → ∀ W : World, Below w.heap.size w W → Calls Tryz.prog 125 #[.agg FL.toArray, vi ki t] W fun r w' => r = zr (.tuple #[trV px, vi ki er]) ∧ Below W.heap.size W w') :
  Calls Tryz.prog 33 #[.agg (tbF nm f sv FL).toArray, vi ki t] w fun r w' => r = zr (.tuple #[trV (atP b y has fr t f L px), vi ki (atE b y)]) ∧ Below w.heap.size w w' := by
 unfold atP atE
 cases b with
 | false => rw [if_neg (by decide), if_neg (by decide)]; exact zat_no _ (tbF_len hF) t w RT
 | true =>
  rw [if_pos rfl, if_pos rfl]
  have AS : ∀ W : World, Below w.heap.size w W → Calls Tryz.prog 78 #[vi ki t] W fun r w' => r = zr (.bool (askY y)) ∧ w' = W := fun W hb => asked_any t y W (YA W hb)
  cases ha : askY y with
  | false => rw [ha] at AS; rw [if_neg (by decide), if_neg (by decide)]; exact zat_range _ (tbF_len hF) t w RT AS
  | true =>
   rw [ha] at AS
   rw [if_pos rfl, if_pos rfl]
   obtain ⟨hr1, hr2⟩ := hr rfl
   exact zat_yes _ (tbF_len hF) t _ w RT AS (fun W hb => stand_any nm f sv FL hF has fr t f0 f1 L hr1 hr2 px er W (HT.mv hb) (fun h1 h2 W' hb' => FA rfl ha h1 h2 W' (hb.trans (hb'.mono hb.size))))
end Go.Proofs.YtklehbmghjcmaaaGreatDoor
namespace Go.Proofs.YtklehbmghjcmaaaGreatDoor
open Go Go.RowKit
structure Turns (M : List Nat) (W W' : World) : Prop where
 os : W'.os = W.os
 tape : W'.tape = W.tape
 output : W'.output = W.output
 size : W.heap.size ≤ W'.heap.size
 block : ∀ k, k < W.heap.size → k ∉ M → W'.heap[k]? = W.heap[k]?
theorem Turns.refl (M : List Nat) (W : World) : Turns M W W := ⟨rfl, rfl, rfl, Nat.le_refl _, fun _ _ _ => rfl⟩
theorem Turns.trans {M : List Nat} {A B C : World} (h : Turns M A B) (k : Turns M B C) : Turns M A C :=
 ⟨k.os.trans h.os, k.tape.trans h.tape, k.output.trans h.output, Nat.le_trans h.size k.size, fun i hi hm => (k.block i (Nat.lt_of_lt_of_le hi h.size) hm).trans (h.block i hi hm)⟩
theorem Turns.mono {M M' : List Nat} {A B : World} (h : Turns M A B) (hm : ∀ k ∈ M, k ∈ M') : Turns M' A B := ⟨h.os, h.tape, h.output, h.size, fun k hk h' => h.block k hk (fun q => h' (hm k q))⟩
theorem Turns.of_below {M : List Nat} {A B : World} (h : Below A.heap.size A B) : Turns M A B := ⟨h.os, h.tape, h.output, h.size, fun k hk _ => h.block k hk⟩
theorem Turns.grown {M : List Nat} {A B : World} {r : Nat} (h : A.grownBy B (some r)) (hr : r ∈ M) : Turns M A B := ⟨h.os, h.tape, h.output, h.size, fun k hk hm => h.block k hk (fun q => hm (by cases q; exact hr))⟩
theorem Turns.putObj {M : List Nat} (W : World) {l : Nat} (o : Obj) (hl : l ∈ M) : Turns M W (W.putObj l o) :=
 ⟨rfl, rfl, rfl, by simp, fun k _ hm => World.putObj_heap_other (by intro e; subst e; exact hm hl)⟩
theorem Turns.setCell {M : List Nat} (W : World) (a : Addr) (v : Value) (hl : a.block ∈ M) : Turns M W (W.setCell a v) :=
 ⟨rfl, rfl, rfl, by show W.heap.size ≤ (W.heap.modify _ _).size; rw [Array.size_modify]; exact Nat.le_refl _, fun k _ hm => Below.heap_setCell W a v k (by intro e; subst e; exact hm hl)⟩
theorem Turns.alloc (M : List Nat) (W : World) (o : Obj) : Turns M W (W.alloc o) := .of_below ((Below.refl _ W).alloc (Nat.le_refl _) o)
theorem Turns.below {M : List Nat} {A B : World} {n : Nat} (h : Turns M A B) (hn : n ≤ A.heap.size) (hm : ∀ k ∈ M, n ≤ k) : Below n A B :=
 ⟨h.os, h.tape, h.output, h.size, fun k hk => h.block k (by omega) (fun q => by have := hm k q; omega)⟩
def SeqB (n : Nat) (P : Program) (gf : Nat) (lb : Array Value) (S : List Nat) (vs : Nat → Value) (N : Nat) (w : World) : Prop :=
 ∀ (l : Nat) (M : List Nat) (J : Nat → World → Prop) (W : World), Below w.heap.size w W → (∀ k ∈ M, k < W.heap.size) → (∀ k ∈ S, k ∉ M) →
  (∀ k A A', J k A → Below W.heap.size A A' → J k A') →
  (∀ k W1, k < N → W.heap.size ≤ W1.heap.size → J k W1 → YieldAt Fence.wide (n - 1) P l #[vs k] W1 fun e W' => e = zr (.bool true) ∧ J (k + 1) W' ∧ Turns M W1 W') →
  J 0 W →
  CallsIn Fence.wide n P gf (#[.func (.yield l) #[] #[]] ++ lb) W fun e W' => (∃ v, e = .returned v) ∧ J N W'
def roundB (M : List Nat) (I : World → Prop) (W : World) : Exit → Act → World → Prop
 | .normal, _, W' => Turns M W W' ∧ I W'
 | _, _, _ => False
theorem rangeB {n : Nat} {P : Program} {g : Operand} {ps : Array Tmp} {assign body : Code} {Q : Exit → Act → World → Prop} {a : Act} {w : World}
  (h1 : 1 ≤ n) {gf : Nat} {lb : Array Value} (hg : a.eval g = .func (.func gf) #[] lb) (eg : ∀ args w, (callFunc gf args).run P w = .ok (.enter gf args) w)
  {S : List Nat} {vs : Nat → Value} {N : Nat} (hseq : SeqB (n - 1) P gf lb S vs N w) (M : List Nat) (hM : ∀ k ∈ M, k < w.heap.size) (hS : ∀ k ∈ S, k < w.heap.size) (hSM : ∀ k ∈ S, k ∉ M) (hps : ps.size = 1)
  (I : Nat → World → Prop) (hI : ∀ k A A', I k A → Below w.heap.size A A' → I k A') (h0 : I 0 w) (Ax : Nat → Act → World → Prop)
  (hAx : ∀ k a' W l o o', Ax k a' W → W.heap[l]? = some o → o.isCells = false → Ax k a' (W.putObj l o'))
  (hassign : ∀ (l k : Nat) (W : World) (K : Act → World → Prop), w.heap.size < W.heap.size → (∀ a' W', Below W.heap.size W W' → Ax k a' W' → K a' W') →
   assign.wpIn (Fence.wide.inRound l) (n - 1 - 1) P (Exit.then K (fun _ _ _ => False)) { tmps := (ps.zip #[vs k]).foldl (fun t (p, v) => t.setIfInBounds p v) a.tmps, defers := [] } W)
  (hbody : ∀ (l k : Nat) (a' : Act) (W : World), I k W → Ax k a' W → k < N → w.heap.size < W.heap.size → body.wpIn (Fence.wide.inRound l) (n - 1 - 1) P (roundB M (I (k + 1)) W) a' W)
  (hdone : ∀ (D : Nat) (W : World), w.heap.size ≤ D → I N W → W.heap[D]? = some (.deferred (some [])) → Q .normal { a with defers := { target := .collected D, args := #[] } :: a.defers } W) :
  (Code.rangeFunc g ps assign body).wpIn Fence.wide n P Q a w := by
 refine wpIn_rangeFunc ?_
 intro fn hfn
 rw [show Fence.wide.round = none from rfl]
 let rec' : LoopState → Option Code → Loop := fun st pe => { state := st, pending := pe, fn, tmps := a.tmps, params := ps, assign, body, defers := w.heap.size }
 obtain ⟨W1, hW1⟩ : ∃ W1, (w.alloc (.deferred (some []))).alloc (.loop (rec' .ready none)) = W1 := ⟨_, rfl⟩
 have hz1 : W1.heap.size = w.heap.size + 2 := by rw [← hW1]; simp
 have hL1 : W1.heap[w.heap.size + 1]? = some (.loop (rec' .ready none)) := by
  rw [← hW1]; have := World.alloc_heap_new (w.alloc (.deferred (some []))) (.loop (rec' .ready none)); rwa [World.size_alloc] at this
 have hK1 : W1.heap[w.heap.size]? = some (.deferred (some [])) := by
  rw [← hW1]; exact (Below.heap_alloc _ _ _ (by simp)).trans (World.alloc_heap_new w _)
 have hb1 : Below w.heap.size w W1 := by
  rw [← hW1]; exact ((Below.refl _ w).alloc (Nat.le_refl _) _).alloc (by simp) _
 have hI1 : I 0 W1 := hI _ _ _ h0 hb1
 refine ⟨w.heap.size + 1, [{ target := .collected w.heap.size, args := #[] }], W1, { target := .fn (.func gf) lb, args := #[.func (.yield (w.heap.size + 1)) #[] #[]] }, W1, gf,
  #[.func (.yield (w.heap.size + 1)) #[] #[]] ++ lb, W1, ?_, ?_, ?_, ?_, fun _ => h1, ?_⟩
 ·rw [← hW1]; exact run_enterLoop_outer _ _ _ _ _
 ·simp only [resolve, hg]
  simp [go_sem]
 ·intro f' hf'; simp [Target.leads] at hf'; subst hf'; trivial
 ·simp [invoke, go_sem, eg]
 ·refine (hseq (w.heap.size + 1) ((w.heap.size + 1) :: M)
   (fun k W => I k W ∧ W.heap[w.heap.size + 1]? = some (.loop (rec' .ready none)) ∧ W.heap[w.heap.size]? = some (.deferred (some [])))
   W1 hb1
   (fun k hk => by rcases List.mem_cons.1 hk with rfl | hk; omega; have := hM k hk; omega)
   (fun k hk q => by rcases List.mem_cons.1 q with e | q; have := hS k hk; omega; exact hSM k hk q)
   (fun k A B hs hb => ⟨hI _ _ _ hs.1 (hb.mono (by omega)), (hb.block _ (by omega)).trans hs.2.1, (hb.block _ (by omega)).trans hs.2.2⟩)
   ?_ ⟨hI1, hL1, hK1⟩).mono ?_
  ·rintro k W hkN hsW ⟨hi, hl, hk⟩
   have hlt : w.heap.size + 1 < W.heap.size := (Array.getElem?_eq_some_iff.1 hl).1
   have hy := run_yield (P := P) (args := #[vs k]) hl (by simp [rec', hps])
   refine ⟨fn, _, assign, body, hy, roundIn_of_wpIn hfn (hassign _ k W _ (by omega) (fun a' Wa hba hxa => ?_))⟩
   have hbt : Turns ((w.heap.size + 1) :: M) W Wa := .of_below hba
   replace hi := hI _ _ _ hi (hba.mono (by omega))
   replace hl := (hba.block _ hlt).trans hl
   replace hk := (hba.block _ (by omega)).trans hk
   replace hlt : w.heap.size + 1 < Wa.heap.size := Nat.lt_of_lt_of_le hlt hba.size
   clear hba hy
   revert hbt
   generalize W = Wb
   intro hbt
   obtain ⟨W, rfl⟩ : ∃ W, W = Wa := ⟨_, rfl⟩
   refine ⟨_, run_beginRound hl rfl, ?_⟩
   have hl2 : (W.putObj (w.heap.size + 1) (.loop { rec' .ready none with state := .busy })).heap[w.heap.size + 1]? = some (.loop { rec' .ready none with state := .busy }) := World.putObj_heap_same hlt
   have hk2 : (W.putObj (w.heap.size + 1) (.loop { rec' .ready none with state := .busy })).heap[w.heap.size]? = some (.deferred (some [])) := (World.putObj_heap_other (by omega)).trans hk
   have hb2 : Below w.heap.size W (W.putObj (w.heap.size + 1) (.loop { rec' .ready none with state := .busy })) := (Turns.putObj (M := [w.heap.size + 1]) W _ (by simp)).below (by omega) (fun k hk => by simp at hk; omega)
   refine wpIn_mono (hbody _ k _ _ (hI _ _ _ hi hb2) (hAx _ _ _ _ _ _ hxa hl rfl) hkN (by simp; omega)) ?_
   rintro e a3 W3 hp
   cases e with
   | normal =>
    obtain ⟨ht, hi3⟩ := hp
    have hnM : w.heap.size + 1 ∉ M := fun q => by have := hM _ q; omega
    have hnD : w.heap.size ∉ M := fun q => by have := hM _ q; omega
    have hl3 := (ht.block (w.heap.size + 1) (by simp; omega) hnM).trans hl2
    have hk3 := (ht.block w.heap.size (by simp; omega) hnD).trans hk2
    have hlt3 := (Array.getElem?_eq_some_iff.1 hl3).1
    refine ⟨_, _, run_endRound (P := P) none hl3, rfl, ⟨?_, World.putObj_heap_same hlt3, (World.putObj_heap_other (by omega)).trans hk3⟩, ?_⟩
    ·exact hI _ _ _ hi3 ((Turns.putObj (M := [w.heap.size + 1]) W3 _ (by simp)).below (by omega) (fun k hk => by simp at hk; omega))
    ·exact hbt.trans <| ((Turns.putObj W _ (by simp)).trans (ht.mono (fun k hk => by simp [hk]))).trans (Turns.putObj W3 _ (by simp))
   | ret => exact hp.elim
   | exit id => exact hp.elim
   | goto t => exact hp.elim
   | panic ch => exact hp.elim
   | outgrown => exact hp.elim
  ·rintro e W2 ⟨⟨v, rfl⟩, hi, hl, hk⟩
   exact ⟨none, _, run_endLoop (P := P) hl (by simp [rec']), hdone _ _ (Nat.le_refl _) (hI _ _ _ hi ((Turns.putObj (M := [w.heap.size + 1]) W2 _ (by simp)).below (by have := (Array.getElem?_eq_some_iff.1 hl).1; omega) (fun k hk => by simp at hk; omega))) ((World.putObj_heap_other (by omega)).trans hk)⟩
theorem CallsIn_round {l n : Nat} {P : Program} {f : FuncId} {args : Array Value} {w : World} {R : Ending → World → Prop} (h : Calls P f args w R) : CallsIn (Fence.wide.inRound l) n P f args w R :=
 (callsIn_wide (n := n)).2 h
theorem oper_round {l n : Nat} {P : Program} {o : Oper} {a : Act} {w : World} {K : Act → World → Prop} {Q : Exit → Act → World → Prop} (hd : ∀ c, o.op ≠ .defer c) (h : o.wp P a w K Q) : o.wpIn (Fence.wide.inRound l) n P a w K Q := by
 refine ⟨fun _ _ => trivial, ?_⟩
 rw [Oper.semAt_eq _ _ _ hd]
 unfold Oper.wp at h
 revert h
 cases (execOp a.eval o).run P w with
 | ok nx w' =>
  cases nx with
  | enter f args => exact fun h => ⟨fun q => by simp [Fence.wide, Fence.inRound] at q, CallsIn_round h⟩
  | row r args => exact fun h => ⟨fun q => by simp [Fence.wide, Fence.inRound] at q, fun c cs _ => let ⟨v, w', r, s⟩ := h c cs; ⟨v, w', r, stepsIn_wide.2 s⟩⟩
  | _ => first | exact fun h => h | exact fun h => h.elim
 | halt x w' => cases x <;> exact fun h => h
theorem op_round {l n : Nat} {P : Program} {ops : Array Oper} {i : Nat} {a : Act} {w : World} {K : Act → World → Prop} {Q : Exit → Act → World → Prop} (hd : ∀ o ∈ ops.toList, ∀ c, o.op ≠ .defer c) (hQ : ¬ LetsOut Q) (h : wpOp P ops Q i K a w) : wpOpIn (Fence.wide.inRound l) n P ops Q i K a w := by
 unfold wpOp at h
 unfold wpOpIn
 cases ho : ops[i]? with
 | none => rw [ho] at h; exact h
 | some o =>
  rw [ho] at h
  have hm : o ∈ ops.toList := by rw [← Array.getElem?_toList] at ho; exact List.mem_of_getElem? ho
  simp only [] at h ⊢
  split
  ·rename_i hw
   rw [if_pos hw] at h
   rcases h with h | ⟨_, h⟩
   ·exact oper_round (hd o hm) h
   ·exact absurd h hQ
  ·rename_i hw
   rw [if_neg hw] at h
   exact ⟨fun _ _ => trivial, h⟩
theorem any_round {l n : Nat} {P : Program} {md : Region.Mode} {ops : Array Oper} {Q : Exit → Act → World → Prop} (hd : ∀ o ∈ ops.toList, ∀ c, o.op ≠ .defer c) (hQ : ¬ LetsOut Q) :
  ∀ (fuel : Nat) (listed : Array Bool) (a : Act) (w : World), wpAny P md ops Q fuel listed a w → wpAnyIn (Fence.wide.inRound l) n P md ops Q fuel listed a w
 | 0, _, _, _, h => h
 | fuel + 1, _, _, _, h => ⟨h.1, fun i hi => op_round hd hQ (wpOp_mono (fun a' w' h' => any_round hd hQ fuel _ a' w' h') (h.2 i hi))⟩
def noDefer (ops : Array Oper) : Bool := ops.toList.all fun o => match o.op with | .defer _ => false | _ => true
theorem noDefer_spec {ops : Array Oper} (h : noDefer ops = true) : ∀ o ∈ ops.toList, ∀ c, o.op ≠ .defer c := fun o ho c hc => by
 have := List.all_eq_true.1 h o ho
 rw [hc] at this
 cases this
theorem region_round {l n : Nat} {P : Program} {ops : Array Oper} {S : World → Prop} {Q : Exit → Act → World → Prop} {id : Nat} {a : Act} {w : World} (hm : P.follows .mixedOrders = true) (hd : noDefer ops = true) (hQ : ¬ LetsOut Q) (hS : S w.drew)
  (h : S w.drew → wpAnyH P .any ops Q S ops.size (Array.replicate ops.size false) a w.drew) : (Code.region id ops true).wpIn (Fence.wide.inRound l) n P Q a w :=
 wpIn_region_any hm (any_round (noDefer_spec hd) hQ _ _ _ _ (wpAny_of_held _ _ _ _ (h hS)))
theorem YieldAt_round {l2 m m' : Nat} {P : Program} {l : Nat} {args : Array Value} {W : World} {R : Ending → World → Prop} (h : YieldAt Fence.wide m P l args W R) : YieldAt (Fence.wide.inRound l2) m' P l args W R := by
 obtain ⟨fn, tmps, assign, body, hy, hR⟩ := h
 exact ⟨fn, tmps, assign, body, hy, hR.1, fun c cs _ => hR.2 c cs (room_wide _)⟩
theorem YieldAt_wide {m m' : Nat} {P : Program} {l : Nat} {args : Array Value} {W : World} {R : Ending → World → Prop} (h : YieldAt Fence.wide m P l args W R) : YieldAt Fence.wide m' P l args W R := by
 obtain ⟨fn, tmps, assign, body, hy, hR⟩ := h
 exact ⟨fn, tmps, assign, body, hy, hR.1, fun c cs _ => hR.2 c cs (room_wide _)⟩
end Go.Proofs.YtklehbmghjcmaaaGreatDoor
