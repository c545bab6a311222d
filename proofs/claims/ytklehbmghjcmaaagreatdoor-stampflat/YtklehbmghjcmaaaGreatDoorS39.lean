import Derived.Test.YtklehbmghjcmaaaGreatDoorSz
import Derived.Test.YtklehbmghjcmaaaGreatDoorS38
import Derived.Test.YtklehbmghjcmaaaGreatDoorS23
import Derived.Test.YtklehbmghjcmaaaGreatDoorS10
import Derived.Test.YtklehbmghjcmaaaGreatDoorS4
open Go.Value renaming int → vi
open Go.IntKind renaming i64 → ki
open List renaming setIfInBounds_toArray → zb, set_cons_zero → zc, set_cons_succ → zd
open Go.Act renaming put → za
open Go.Ending renaming returned → zr
set_option maxRecDepth 100000
set_option maxHeartbeats 16000000
set_option linter.unusedVariables false
namespace Go.Proofs.YtklehbmghjcmaaaGreatDoor.Fn
open Go.RowKit
theorem own_lt {W : World} {b : Nat} {e : TypeId} {sz n : Nat} {v : Value} {xs : List Value} (h : W.ownsRow (b + 1) e sz v n xs) (r : Nat) (hr : v.ownBlock = some r) : b < r := by
 rcases h.2 with ⟨rfl, _⟩ | ⟨g, cap, cur, rfl, q, _⟩
 ·simp [Value.ownBlock] at hr
 ·simp [Value.ownBlock] at hr; omega
theorem own_ne {W : World} {b : Nat} {e : TypeId} {sz n : Nat} {v : Value} {xs : List Value} (h : W.ownsRow (b + 1) e sz v n xs) (r : Nat) (hr : v.ownBlock = some r) : r ≠ b := by
 have := own_lt h r hr
 omega
theorem rowsK_two (f : Ft) (y0 : Int) (i : Nat) : rowsK f y0 (2 * (i + 1)) = rowsK f y0 (2 * i) ++ (tL (sh1 f (y0 + i)) ++ tL (sh2 f (y0 + i))) := by
 rw [show 2 * (i + 1) = 2 * i + 1 + 1 by omega]
 show (rowsK f y0 (2 * i) ++ tL (shK f y0 (2 * i))) ++ tL (shK f y0 (2 * i + 1)) = _
 rw [shK_0, shK_1, List.append_assoc]
theorem rowsK_len (f : Ft) (y0 : Int) : ∀ n : Nat, (rowsK f y0 n).length = 4 * n
 | 0 => rfl
 | n + 1 => by
  show (rowsK f y0 n ++ tL (shK f y0 n)).length = _
  rw [List.length_append, rowsK_len f y0 n]
  show 4 * n + 4 = _
  omega
theorem rowsK_at (f : Ft) (y0 : Int) (k c : Nat) (hc : c < 4) : ∀ n : Nat, k < n → (rowsK f y0 n)[4 * k + c]? = (tL (shK f y0 k))[c]?
 | 0, h => by omega
 | n + 1, h => by
  show (rowsK f y0 n ++ tL (shK f y0 n))[4 * k + c]? = _
  by_cases e : k = n
  ·subst e
   rw [List.getElem?_append_right (by rw [rowsK_len]; omega), rowsK_len, show 4 * k + c - 4 * k = c by omega]
  ·rw [List.getElem?_append_left (by rw [rowsK_len]; omega)]
   exact rowsK_at f y0 k c hc n (by omega)
theorem tL_mem2 {p q : Tr} {v : Value} (hv : v ∈ tL p ++ tL q) : v.oneCell' = true := by
 rcases List.mem_append.1 hv with h | h
 ·exact tL_mem h
 ·exact tL_mem h
theorem near_ok (f : Ft) (t y : Int) (y1 : -4714 ≤ y) (y2 : y ≤ 294278)
  (RC : Hid (∀ w : World, Calls Tryz.prog 151 #[.agg #[.bool f.h, vi ki f.fr, vi ki f.off, vi ki f.A.m, vi ki f.A.k, vi ki f.A.d, vi ki f.A.n, vi ki f.A.s, .int .u8 f.A.z, vi ki f.A.v, .string f.A.t, vi ki f.B.m, vi ki f.B.k, vi ki f.B.d, vi ki f.B.n, vi ki f.B.s, .int .u8 f.B.z, vi ki f.B.v, .string f.B.t]] w fun e w' => e = zr (.bool true) ∧ Below w.heap.size w w'))
  (YA : Hid (∀ w : World, Calls Tryz.prog 54 #[vi ki t] w fun e w' => e = zr (vi ki y) ∧ w' = w))
  (YE : Hid (∀ (i : Nat), i < 5 → ∀ w : World, Cvl.Lens w → Clk.Tab w → Calls Tryz.prog 136 #[.agg #[.bool f.h, vi ki f.fr, vi ki f.off, vi ki f.A.m, vi ki f.A.k, vi ki f.A.d, vi ki f.A.n, vi ki f.A.s, .int .u8 f.A.z, vi ki f.A.v, .string f.A.t, vi ki f.B.m, vi ki f.B.k, vi ki f.B.d, vi ki f.B.n, vi ki f.B.s, .int .u8 f.B.z, vi ki f.B.v, .string f.B.t], vi ki (y - 2 + i)] w fun e w' => ∃ g, e = zr (.tuple #[.slice (some ⟨g, 0, none⟩) 2 2, vi ki 0]) ∧ Bx w' g (tL (sh1 f (y - 2 + i)) ++ tL (sh2 f (y - 2 + i))) ∧ Below w.heap.size w w'))
  (w : World) (hL0 : Hid (Cvl.Lens w)) (hT0 : Hid (Clk.Tab w)) :
  Calls Tryz.prog 107 #[.agg #[.bool f.h, vi ki f.fr, vi ki f.off, vi ki f.A.m, vi ki f.A.k, vi ki f.A.d, vi ki f.A.n, vi ki f.A.s, .int .u8 f.A.z, vi ki f.A.v, .string f.A.t, vi ki f.B.m, vi ki f.B.k, vi ki f.B.d, vi ki f.B.n, vi ki f.B.s, .int .u8 f.B.z, vi ki f.B.v, .string f.B.t], vi ki t] w fun e w' => ∃ v, e = zr (.tuple #[v, vi ki 0]) ∧ w'.ownsRow (w.heap.size + 1) 23 4 v 10 (rowsK f (y - 2) 10) ∧ Below w.heap.size w w' := by
 have B0 : Hid (Below w.heap.size w (w.alloc (.cells #[.bool f.h, vi ki f.fr, vi ki f.off, vi ki f.A.m, vi ki f.A.k, vi ki f.A.d, vi ki f.A.n, vi ki f.A.s, .int .u8 f.A.z, vi ki f.A.v, .string f.A.t, vi ki f.B.m, vi ki f.B.k, vi ki f.B.d, vi ki f.B.n, vi ki f.B.s, .int .u8 f.B.z, vi ki f.B.v, .string f.B.t] 32))) := (Below.refl _ _).alloc (Nat.le_refl _) _
 have X0 : Hid (Bx (w.alloc (.cells #[.bool f.h, vi ki f.fr, vi ki f.off, vi ki f.A.m, vi ki f.A.k, vi ki f.A.d, vi ki f.A.n, vi ki f.A.s, .int .u8 f.A.z, vi ki f.A.v, .string f.A.t, vi ki f.B.m, vi ki f.B.k, vi ki f.B.d, vi ki f.B.n, vi ki f.B.s, .int .u8 f.B.z, vi ki f.B.v, .string f.B.t] 32)) w.heap.size [.bool f.h, vi ki f.fr, vi ki f.off, vi ki f.A.m, vi ki f.A.k, vi ki f.A.d, vi ki f.A.n, vi ki f.A.s, .int .u8 f.A.z, vi ki f.A.v, .string f.A.t, vi ki f.B.m, vi ki f.B.k, vi ki f.B.d, vi ki f.B.n, vi ki f.B.s, .int .u8 f.B.z, vi ki f.B.v, .string f.B.t]) := Bx.new w [.bool f.h, vi ki f.fr, vi ki f.off, vi ki f.A.m, vi ki f.A.k, vi ki f.A.d, vi ki f.A.n, vi ki f.A.s, .int .u8 f.A.z, vi ki f.A.v, .string f.A.t, vi ki f.B.m, vi ki f.B.k, vi ki f.B.d, vi ki f.B.n, vi ki f.B.s, .int .u8 f.B.z, vi ki f.B.v, .string f.B.t] _
 have h1 : ¬ y < -4714 := by omega
 have h2 : ¬ 294278 < y := by omega
 obtain ⟨i0, hi, hz0, hz1, hz2⟩ := info_parts infoT
 go_enter Tryz.func107, Tryz.ntmps107
 go_wp2_with (first | (refine wpList_load_mid rfl 32 _ rfl w.heap.size 0 rfl [.bool f.h, vi ki f.fr, vi ki f.off, vi ki f.A.m, vi ki f.A.k, vi ki f.A.d, vi ki f.A.n, vi ki f.A.s, .int .u8 f.A.z, vi ki f.A.v, .string f.A.t, vi ki f.B.m, vi ki f.B.k, vi ki f.B.d, vi ki f.B.n, vi ki f.B.s, .int .u8 f.B.z, vi ki f.B.v, .string f.B.t] _ X0.out.all Tryz.underlying32 rfl (by kernel_rfl) ?_) | fail)
 refine (RC.out _).mono ?_
 rintro e w1 ⟨rfl, hb⟩
 have B1 : Hid (Below w.heap.size w w1) := B0.out.trans (hb.mono B0.out.size)
 have X1 : Hid (Bx w1 w.heap.size [.bool f.h, vi ki f.fr, vi ki f.off, vi ki f.A.m, vi ki f.A.k, vi ki f.A.d, vi ki f.A.n, vi ki f.A.s, .int .u8 f.A.z, vi ki f.A.v, .string f.A.t, vi ki f.B.m, vi ki f.B.k, vi ki f.B.d, vi ki f.B.n, vi ki f.B.s, .int .u8 f.B.z, vi ki f.B.v, .string f.B.t]) := X0.out.below hb
 clear hb B0 X0 RC
 go_wp2_with fail
 refine (YA.out _).mono ?_
 rintro e w2 ⟨rfl, rfl⟩
 go_wp2_with fail
 go_loopw [7, 8] (fun v kv wr => ∃ i : Nat, kv = vi ki (y - 2 + i) ∧ i ≤ 5 ∧ wr.ownsRow (w.heap.size + 1) 23 4 v (2 * i) (rowsK f (y - 2) (2 * i)) ∧ Bx wr w.heap.size [.bool f.h, vi ki f.fr, vi ki f.off, vi ki f.A.m, vi ki f.A.k, vi ki f.A.d, vi ki f.A.n, vi ki f.A.s, .int .u8 f.A.z, vi ki f.A.v, .string f.A.t, vi ki f.B.m, vi ki f.B.k, vi ki f.B.d, vi ki f.B.n, vi ki f.B.s, .int .u8 f.B.z, vi ki f.B.v, .string f.B.t] ∧ Below w.heap.size w wr) (fun _ kv _ => (y + 3 - intOf kv).toNat)
 case atStart => exact ⟨0, by simp, by omega, World.ownsRow_nil _ _ _ _, X1.out, B1.out⟩
 case round =>
  obtain ⟨i, rfl, hi5, hr0, hx0, hb0⟩ := hrel
  have HR : Hid (wr.ownsRow (w.heap.size + 1) 23 4 u7 (2 * i) (rowsK f (y - 2) (2 * i))) := hr0
  have HX : Hid (Bx wr w.heap.size [.bool f.h, vi ki f.fr, vi ki f.off, vi ki f.A.m, vi ki f.A.k, vi ki f.A.d, vi ki f.A.n, vi ki f.A.s, .int .u8 f.A.z, vi ki f.A.v, .string f.A.t, vi ki f.B.m, vi ki f.B.k, vi ki f.B.d, vi ki f.B.n, vi ki f.B.s, .int .u8 f.B.z, vi ki f.B.v, .string f.B.t]) := hx0
  have HB : Hid (Below w.heap.size w wr) := hb0
  clear hr0 hx0 hb0 X1 B1
  by_cases hlt : i < 5
  ·have hle : y - 2 + (i : Int) ≤ y + 2 := by omega
   have YI := YE.out i hlt
   have YJ : Hid (∀ w : World, Cvl.Lens w → Clk.Tab w → Calls Tryz.prog 136 #[.agg #[.bool f.h, vi ki f.fr, vi ki f.off, vi ki f.A.m, vi ki f.A.k, vi ki f.A.d, vi ki f.A.n, vi ki f.A.s, .int .u8 f.A.z, vi ki f.A.v, .string f.A.t, vi ki f.B.m, vi ki f.B.k, vi ki f.B.d, vi ki f.B.n, vi ki f.B.s, .int .u8 f.B.z, vi ki f.B.v, .string f.B.t], vi ki (y - 2 + i)] w fun e w' => ∃ g, e = zr (.tuple #[.slice (some ⟨g, 0, none⟩) 2 2, vi ki 0]) ∧ Bx w' g (tL (sh1 f (y - 2 + i)) ++ tL (sh2 f (y - 2 + i))) ∧ Below w.heap.size w w') := YI
   clear YI
   go_wp2_with (first | (refine wpList_load_mid rfl 32 _ rfl w.heap.size 0 rfl [.bool f.h, vi ki f.fr, vi ki f.off, vi ki f.A.m, vi ki f.A.k, vi ki f.A.d, vi ki f.A.n, vi ki f.A.s, .int .u8 f.A.z, vi ki f.A.v, .string f.A.t, vi ki f.B.m, vi ki f.B.k, vi ki f.B.d, vi ki f.B.n, vi ki f.B.s, .int .u8 f.B.z, vi ki f.B.v, .string f.B.t] _ HX.out.all Tryz.underlying32 rfl (by kernel_rfl) ?_) | fail)
   refine (YJ.out _ (bel_lens HB.out hL0.out) (hT0.out.below HB.out)).mono ?_
   rintro e w3 ⟨g, rfl, hg, hb⟩
   have HR3 : Hid (w3.ownsRow (w.heap.size + 1) 23 4 u7 (2 * i) (rowsK f (y - 2) (2 * i))) := HR.out.kept (grown_of_below (row := none) hb) (by cases u7.ownBlock <;> simp)
   have HX3 : Hid (Bx w3 w.heap.size [.bool f.h, vi ki f.fr, vi ki f.off, vi ki f.A.m, vi ki f.A.k, vi ki f.A.d, vi ki f.A.n, vi ki f.A.s, .int .u8 f.A.z, vi ki f.A.v, .string f.A.t, vi ki f.B.m, vi ki f.B.k, vi ki f.B.d, vi ki f.B.n, vi ki f.B.s, .int .u8 f.B.z, vi ki f.B.v, .string f.B.t]) := HX.out.below hb
   have HB3 : Hid (Below w.heap.size w w3) := HB.out.trans (hb.mono HB.out.size)
   have HG : Hid (Bx w3 g (tL (sh1 f (y - 2 + i)) ++ tL (sh2 f (y - 2 + i)))) := hg
   clear hg hb HR HX HB YJ
   go_wp2_with (at_builtin; refine wpList_append_own _ rfl _ _ 24 rfl (w.heap.size + 1) 23 i0 (.agg #[vi ki 0, vi ki 0, .bool false, .string ⟨#[]⟩]) 4 40 Tryz.underlying24 hi hz0 hz1 hz2 rfl (by decide) u7 (2 * i) (rowsK f (y - 2) (2 * i)) rfl HR3.out ⟨g, 0, none⟩ 2 2 (tL (sh1 f (y - 2 + i)) ++ tL (sh2 f (y - 2 + i))) rfl rfl (fun j u hu => by rw [Addr.add_mid, Nat.zero_add]; exact (HG.out.2 j u hu).1) (fun u hu => tL_mem2 hu) (by unfold maxLen; omega) (by omega) (by have := HX3.out.1; omega) ?_; intro v' w4 hown' hgrow _; have HR4 : Hid (w4.ownsRow (w.heap.size + 1) 23 4 v' (2 * (i + 1)) (rowsK f (y - 2) (2 * (i + 1)))) := (by rw [rowsK_two]; exact hown'); have HX4 : Hid (Bx w4 w.heap.size [.bool f.h, vi ki f.fr, vi ki f.off, vi ki f.A.m, vi ki f.A.k, vi ki f.A.d, vi ki f.A.n, vi ki f.A.s, .int .u8 f.A.z, vi ki f.A.v, .string f.A.t, vi ki f.B.m, vi ki f.B.k, vi ki f.B.d, vi ki f.B.n, vi ki f.B.s, .int .u8 f.B.z, vi ki f.B.v, .string f.B.t]) := HX3.out.grownR hgrow (own_ne HR3.out); have HB4 : Hid (Below w.heap.size w w4) := HB3.out.grown hgrow HB3.out.size (fun r e => Nat.le_of_lt (own_lt HR3.out r e)); obtain ⟨g', cap', rfl⟩ := ownsRow_succ hown'; clear hown' hgrow HR3 HX3 HB3 HG)
   refine ⟨⟨i + 1, by rw [show y - 2 + ((i + 1 : Nat) : Int) = y - 2 + i + 1 by omega], by omega, HR4.out, HX4.out, HB4.out⟩, ?_⟩
   simp [intOf]; omega
  ·obtain rfl : i = 5 := by omega
   have hle : ¬ y - 2 + ((5 : Nat) : Int) ≤ y + 2 := by omega
   go_wp2
   go_ret2
   exact ⟨_, rfl, HR.out, HB.out⟩
theorem near_arg (f : Ft) (t : Int)
  (RC : Hid (∀ w : World, Calls Tryz.prog 151 #[.agg #[.bool f.h, vi ki f.fr, vi ki f.off, vi ki f.A.m, vi ki f.A.k, vi ki f.A.d, vi ki f.A.n, vi ki f.A.s, .int .u8 f.A.z, vi ki f.A.v, .string f.A.t, vi ki f.B.m, vi ki f.B.k, vi ki f.B.d, vi ki f.B.n, vi ki f.B.s, .int .u8 f.B.z, vi ki f.B.v, .string f.B.t]] w fun e w' => e = zr (.bool false) ∧ Below w.heap.size w w')) (w : World) :
  Calls Tryz.prog 107 #[.agg #[.bool f.h, vi ki f.fr, vi ki f.off, vi ki f.A.m, vi ki f.A.k, vi ki f.A.d, vi ki f.A.n, vi ki f.A.s, .int .u8 f.A.z, vi ki f.A.v, .string f.A.t, vi ki f.B.m, vi ki f.B.k, vi ki f.B.d, vi ki f.B.n, vi ki f.B.s, .int .u8 f.B.z, vi ki f.B.v, .string f.B.t], vi ki t] w fun e w' => e = zr (.tuple #[.slice none 0 0, vi ki 1]) ∧ Below w.heap.size w w' := by
 have B0 : Hid (Below w.heap.size w (w.alloc (.cells #[.bool f.h, vi ki f.fr, vi ki f.off, vi ki f.A.m, vi ki f.A.k, vi ki f.A.d, vi ki f.A.n, vi ki f.A.s, .int .u8 f.A.z, vi ki f.A.v, .string f.A.t, vi ki f.B.m, vi ki f.B.k, vi ki f.B.d, vi ki f.B.n, vi ki f.B.s, .int .u8 f.B.z, vi ki f.B.v, .string f.B.t] 32))) := (Below.refl _ _).alloc (Nat.le_refl _) _
 have X0 : Hid (Bx (w.alloc (.cells #[.bool f.h, vi ki f.fr, vi ki f.off, vi ki f.A.m, vi ki f.A.k, vi ki f.A.d, vi ki f.A.n, vi ki f.A.s, .int .u8 f.A.z, vi ki f.A.v, .string f.A.t, vi ki f.B.m, vi ki f.B.k, vi ki f.B.d, vi ki f.B.n, vi ki f.B.s, .int .u8 f.B.z, vi ki f.B.v, .string f.B.t] 32)) w.heap.size [.bool f.h, vi ki f.fr, vi ki f.off, vi ki f.A.m, vi ki f.A.k, vi ki f.A.d, vi ki f.A.n, vi ki f.A.s, .int .u8 f.A.z, vi ki f.A.v, .string f.A.t, vi ki f.B.m, vi ki f.B.k, vi ki f.B.d, vi ki f.B.n, vi ki f.B.s, .int .u8 f.B.z, vi ki f.B.v, .string f.B.t]) := Bx.new w [.bool f.h, vi ki f.fr, vi ki f.off, vi ki f.A.m, vi ki f.A.k, vi ki f.A.d, vi ki f.A.n, vi ki f.A.s, .int .u8 f.A.z, vi ki f.A.v, .string f.A.t, vi ki f.B.m, vi ki f.B.k, vi ki f.B.d, vi ki f.B.n, vi ki f.B.s, .int .u8 f.B.z, vi ki f.B.v, .string f.B.t] _
 go_enter Tryz.func107, Tryz.ntmps107
 go_wp2_with (first | (refine wpList_load_mid rfl 32 _ rfl w.heap.size 0 rfl [.bool f.h, vi ki f.fr, vi ki f.off, vi ki f.A.m, vi ki f.A.k, vi ki f.A.d, vi ki f.A.n, vi ki f.A.s, .int .u8 f.A.z, vi ki f.A.v, .string f.A.t, vi ki f.B.m, vi ki f.B.k, vi ki f.B.d, vi ki f.B.n, vi ki f.B.s, .int .u8 f.B.z, vi ki f.B.v, .string f.B.t] _ X0.out.all Tryz.underlying32 rfl (by kernel_rfl) ?_) | fail)
 refine (RC.out _).mono ?_
 rintro e w1 ⟨rfl, hb⟩
 have B1 : Hid (Below w.heap.size w w1) := B0.out.trans (hb.mono B0.out.size)
 clear hb B0 X0 RC
 go_wp2
 go_ret2
 exact ⟨rfl, B1.out⟩
theorem near_range (f : Ft) (t y : Int) (h : y < -4714 ∨ (¬ y < -4714 ∧ 294278 < y))
  (RC : Hid (∀ w : World, Calls Tryz.prog 151 #[.agg #[.bool f.h, vi ki f.fr, vi ki f.off, vi ki f.A.m, vi ki f.A.k, vi ki f.A.d, vi ki f.A.n, vi ki f.A.s, .int .u8 f.A.z, vi ki f.A.v, .string f.A.t, vi ki f.B.m, vi ki f.B.k, vi ki f.B.d, vi ki f.B.n, vi ki f.B.s, .int .u8 f.B.z, vi ki f.B.v, .string f.B.t]] w fun e w' => e = zr (.bool true) ∧ Below w.heap.size w w'))
  (YA : Hid (∀ w : World, Calls Tryz.prog 54 #[vi ki t] w fun e w' => e = zr (vi ki y) ∧ w' = w)) (w : World) :
  Calls Tryz.prog 107 #[.agg #[.bool f.h, vi ki f.fr, vi ki f.off, vi ki f.A.m, vi ki f.A.k, vi ki f.A.d, vi ki f.A.n, vi ki f.A.s, .int .u8 f.A.z, vi ki f.A.v, .string f.A.t, vi ki f.B.m, vi ki f.B.k, vi ki f.B.d, vi ki f.B.n, vi ki f.B.s, .int .u8 f.B.z, vi ki f.B.v, .string f.B.t], vi ki t] w fun e w' => e = zr (.tuple #[.slice none 0 0, vi ki 10]) ∧ Below w.heap.size w w' := by
 have B0 : Hid (Below w.heap.size w (w.alloc (.cells #[.bool f.h, vi ki f.fr, vi ki f.off, vi ki f.A.m, vi ki f.A.k, vi ki f.A.d, vi ki f.A.n, vi ki f.A.s, .int .u8 f.A.z, vi ki f.A.v, .string f.A.t, vi ki f.B.m, vi ki f.B.k, vi ki f.B.d, vi ki f.B.n, vi ki f.B.s, .int .u8 f.B.z, vi ki f.B.v, .string f.B.t] 32))) := (Below.refl _ _).alloc (Nat.le_refl _) _
 have X0 : Hid (Bx (w.alloc (.cells #[.bool f.h, vi ki f.fr, vi ki f.off, vi ki f.A.m, vi ki f.A.k, vi ki f.A.d, vi ki f.A.n, vi ki f.A.s, .int .u8 f.A.z, vi ki f.A.v, .string f.A.t, vi ki f.B.m, vi ki f.B.k, vi ki f.B.d, vi ki f.B.n, vi ki f.B.s, .int .u8 f.B.z, vi ki f.B.v, .string f.B.t] 32)) w.heap.size [.bool f.h, vi ki f.fr, vi ki f.off, vi ki f.A.m, vi ki f.A.k, vi ki f.A.d, vi ki f.A.n, vi ki f.A.s, .int .u8 f.A.z, vi ki f.A.v, .string f.A.t, vi ki f.B.m, vi ki f.B.k, vi ki f.B.d, vi ki f.B.n, vi ki f.B.s, .int .u8 f.B.z, vi ki f.B.v, .string f.B.t]) := Bx.new w [.bool f.h, vi ki f.fr, vi ki f.off, vi ki f.A.m, vi ki f.A.k, vi ki f.A.d, vi ki f.A.n, vi ki f.A.s, .int .u8 f.A.z, vi ki f.A.v, .string f.A.t, vi ki f.B.m, vi ki f.B.k, vi ki f.B.d, vi ki f.B.n, vi ki f.B.s, .int .u8 f.B.z, vi ki f.B.v, .string f.B.t] _
 rcases h with h | ⟨h, h'⟩ <;>
 ·go_enter Tryz.func107, Tryz.ntmps107
  go_wp2_with (first | (refine wpList_load_mid rfl 32 _ rfl w.heap.size 0 rfl [.bool f.h, vi ki f.fr, vi ki f.off, vi ki f.A.m, vi ki f.A.k, vi ki f.A.d, vi ki f.A.n, vi ki f.A.s, .int .u8 f.A.z, vi ki f.A.v, .string f.A.t, vi ki f.B.m, vi ki f.B.k, vi ki f.B.d, vi ki f.B.n, vi ki f.B.s, .int .u8 f.B.z, vi ki f.B.v, .string f.B.t] _ X0.out.all Tryz.underlying32 rfl (by kernel_rfl) ?_) | fail)
  refine (RC.out _).mono ?_
  rintro e w1 ⟨rfl, hb⟩
  have B1 : Hid (Below w.heap.size w w1) := B0.out.trans (hb.mono B0.out.size)
  clear hb B0 X0 RC
  go_wp2_with fail
  refine (YA.out _).mono ?_
  rintro e w2 ⟨rfl, rfl⟩
  go_wp2
  go_ret2
  exact ⟨rfl, B1.out⟩
theorem rat_run (f : Ft) (t y0 : Int) (K : Nat) (hK : K < 10) (hle : (shK f y0 K).t ≤ t) (hgt : ∀ k, K < k → k < 10 → t < (shK f y0 k).t)
  (NR : Hid (∀ w : World, Cvl.Lens w → Clk.Tab w → Calls Tryz.prog 107 #[.agg #[.bool f.h, vi ki f.fr, vi ki f.off, vi ki f.A.m, vi ki f.A.k, vi ki f.A.d, vi ki f.A.n, vi ki f.A.s, .int .u8 f.A.z, vi ki f.A.v, .string f.A.t, vi ki f.B.m, vi ki f.B.k, vi ki f.B.d, vi ki f.B.n, vi ki f.B.s, .int .u8 f.B.z, vi ki f.B.v, .string f.B.t], vi ki t] w fun e w' => ∃ g cap, e = zr (.tuple #[.slice (some ⟨g, 0, none⟩) 10 cap, vi ki 0]) ∧ Bx w' g (rowsK f y0 10) ∧ Below w.heap.size w w'))
  (w : World) (hL0 : Hid (Cvl.Lens w)) (hT0 : Hid (Clk.Tab w)) :
  Calls Tryz.prog 55 #[.agg #[.bool f.h, vi ki f.fr, vi ki f.off, vi ki f.A.m, vi ki f.A.k, vi ki f.A.d, vi ki f.A.n, vi ki f.A.s, .int .u8 f.A.z, vi ki f.A.v, .string f.A.t, vi ki f.B.m, vi ki f.B.k, vi ki f.B.d, vi ki f.B.n, vi ki f.B.s, .int .u8 f.B.z, vi ki f.B.v, .string f.B.t], vi ki t] w fun e w' => e = zr (.tuple #[.agg (tL (shK f y0 K)).toArray, vi ki 0]) ∧ Below w.heap.size w w' := by
 have HB : Hid (Below w.heap.size w ((w.alloc (.cells #[.bool f.h, vi ki f.fr, vi ki f.off, vi ki f.A.m, vi ki f.A.k, vi ki f.A.d, vi ki f.A.n, vi ki f.A.s, .int .u8 f.A.z, vi ki f.A.v, .string f.A.t, vi ki f.B.m, vi ki f.B.k, vi ki f.B.d, vi ki f.B.n, vi ki f.B.s, .int .u8 f.B.z, vi ki f.B.v, .string f.B.t] 32)).alloc (.cells #[vi ki 0, vi ki 0, .bool false, .string ⟨#[]⟩] 23))) := (((Below.refl _ _).alloc (by simp <;> omega) _).alloc (by simp <;> omega) _)
 have X0 : Hid (Bx ((w.alloc (.cells #[.bool f.h, vi ki f.fr, vi ki f.off, vi ki f.A.m, vi ki f.A.k, vi ki f.A.d, vi ki f.A.n, vi ki f.A.s, .int .u8 f.A.z, vi ki f.A.v, .string f.A.t, vi ki f.B.m, vi ki f.B.k, vi ki f.B.d, vi ki f.B.n, vi ki f.B.s, .int .u8 f.B.z, vi ki f.B.v, .string f.B.t] 32)).alloc (.cells #[vi ki 0, vi ki 0, .bool false, .string ⟨#[]⟩] 23)) (w.heap.size) ([.bool f.h, vi ki f.fr, vi ki f.off, vi ki f.A.m, vi ki f.A.k, vi ki f.A.d, vi ki f.A.n, vi ki f.A.s, .int .u8 f.A.z, vi ki f.A.v, .string f.A.t, vi ki f.B.m, vi ki f.B.k, vi ki f.B.d, vi ki f.B.n, vi ki f.B.s, .int .u8 f.B.z, vi ki f.B.v, .string f.B.t])) := ((Bx.newAt w ([.bool f.h, vi ki f.fr, vi ki f.off, vi ki f.A.m, vi ki f.A.k, vi ki f.A.d, vi ki f.A.n, vi ki f.A.s, .int .u8 f.A.z, vi ki f.A.v, .string f.A.t, vi ki f.B.m, vi ki f.B.k, vi ki f.B.d, vi ki f.B.n, vi ki f.B.s, .int .u8 f.B.z, vi ki f.B.v, .string f.B.t]) _ _ (by simp)).alloc _)
 have X1 : Hid (Bx ((w.alloc (.cells #[.bool f.h, vi ki f.fr, vi ki f.off, vi ki f.A.m, vi ki f.A.k, vi ki f.A.d, vi ki f.A.n, vi ki f.A.s, .int .u8 f.A.z, vi ki f.A.v, .string f.A.t, vi ki f.B.m, vi ki f.B.k, vi ki f.B.d, vi ki f.B.n, vi ki f.B.s, .int .u8 f.B.z, vi ki f.B.v, .string f.B.t] 32)).alloc (.cells #[vi ki 0, vi ki 0, .bool false, .string ⟨#[]⟩] 23)) (w.heap.size + 1) (z4)) := (Bx.newAt (w.alloc (.cells #[.bool f.h, vi ki f.fr, vi ki f.off, vi ki f.A.m, vi ki f.A.k, vi ki f.A.d, vi ki f.A.n, vi ki f.A.s, .int .u8 f.A.z, vi ki f.A.v, .string f.A.t, vi ki f.B.m, vi ki f.B.k, vi ki f.B.d, vi ki f.B.n, vi ki f.B.s, .int .u8 f.B.z, vi ki f.B.v, .string f.B.t] 32)) (z4) _ _ (by simp))
 have L1 : Hid (Cvl.Lens ((w.alloc (.cells #[.bool f.h, vi ki f.fr, vi ki f.off, vi ki f.A.m, vi ki f.A.k, vi ki f.A.d, vi ki f.A.n, vi ki f.A.s, .int .u8 f.A.z, vi ki f.A.v, .string f.A.t, vi ki f.B.m, vi ki f.B.k, vi ki f.B.d, vi ki f.B.n, vi ki f.B.s, .int .u8 f.B.z, vi ki f.B.v, .string f.B.t] 32)).alloc (.cells #[vi ki 0, vi ki 0, .bool false, .string ⟨#[]⟩] 23))) := Lens_below hL0.out HB.out (Lens_lt hL0.out)
 have T1 : Hid (Clk.Tab ((w.alloc (.cells #[.bool f.h, vi ki f.fr, vi ki f.off, vi ki f.A.m, vi ki f.A.k, vi ki f.A.d, vi ki f.A.n, vi ki f.A.s, .int .u8 f.A.z, vi ki f.A.v, .string f.A.t, vi ki f.B.m, vi ki f.B.k, vi ki f.B.d, vi ki f.B.n, vi ki f.B.s, .int .u8 f.B.z, vi ki f.B.v, .string f.B.t] 32)).alloc (.cells #[vi ki 0, vi ki 0, .bool false, .string ⟨#[]⟩] 23))) := hT0.out.below HB.out
 have HLE : Hid ((shK f y0 K).t ≤ t) := hle
 have HGT : Hid (∀ k, K < k → k < 10 → t < (shK f y0 k).t) := hgt
 clear hle hgt
 go_enter Tryz.func55, Tryz.ntmps55
 go_wp2_with (first | (refine wpList_load_mid rfl 32 _ rfl w.heap.size 0 rfl [.bool f.h, vi ki f.fr, vi ki f.off, vi ki f.A.m, vi ki f.A.k, vi ki f.A.d, vi ki f.A.n, vi ki f.A.s, .int .u8 f.A.z, vi ki f.A.v, .string f.A.t, vi ki f.B.m, vi ki f.B.k, vi ki f.B.d, vi ki f.B.n, vi ki f.B.s, .int .u8 f.B.z, vi ki f.B.v, .string f.B.t] _ X0.out.all Tryz.underlying32 rfl (by kernel_rfl) ?_) | fail)
 refine (NR.out _ L1.out T1.out).mono ?_
 rintro e w1 ⟨g, cap, rfl, R1, hb⟩
 have B1 : Hid (Below w.heap.size w w1) := HB.out.trans (hb.mono HB.out.size)
 have Y1 : Hid (Bx w1 (w.heap.size + 1) z4) := X1.out.below hb
 have H1 : Hid (Bx w1 g (rowsK f y0 10)) := R1
 clear hb HB X0 X1 L1 T1 NR R1
 go_wp2_with fail
 go_loopw [8] (fun iv wr => ∃ i : Nat, iv = vi ki (i : Int) ∧ K ≤ i ∧ i ≤ 9 ∧ wr = w1) (fun iv _ => (intOf iv).toNat - K)
 case atStart => exact ⟨9, rfl, by omega, by omega, rfl⟩
 case round =>
  obtain ⟨i, rfl, hi1, hi2, rfl⟩ := hrel
  have key : ∀ c, c < 4 → ∀ v, (tL (shK f y0 i))[c]? = some v → wr.cell? ⟨g, i * 4 + c, none⟩ = some v := fun c hc v hv => by
   rw [show i * 4 + c = 4 * i + c by omega]
   exact (H1.out.2 _ _ ((rowsK_at f y0 i c hc 10 (by omega)).trans hv)).1
  have k0 := key 0 (by omega) _ rfl
  have k1 := key 1 (by omega) _ rfl
  have k2 := key 2 (by omega) _ rfl
  have k3 := key 3 (by omega) _ rfl
  simp only [Nat.add_zero] at k0
  clear key
  by_cases e : i = K
  ·subst e
   have hq : (shK f y0 i).t ≤ t := HLE.out
   go_wp2_with (first | (refine wpList_store_mid rfl 23 _ _ rfl (w.heap.size + 1) 0 #[vi ki (shK f y0 i).t, vi ki (shK f y0 i).o, .bool (shK f y0 i).d, .string (shK f y0 i).a] rfl rfl Y1.out.there (by kernel_rfl) (tL_one (shK f y0 i)) ?_; refine gen_list (fun V => Bx V (w.heap.size + 1) (tL (shK f y0 i)) ∧ Below w.heap.size w V) ⟨Y1.out.setAll (tL (shK f y0 i)) rfl, below_setCells (by omega) _ _ _ B1.out⟩ ?_; rintro V ⟨U1, UB⟩) | fail)
   exact bodyPost_ret (v := .tuple #[.agg (tL (shK f y0 i)).toArray, vi ki 0]) (results_cell_t rfl _ _ _ _ _ rfl rfl (run_loadVar_mid _ _ _ _ (tL (shK f y0 i)) _ U1.all Tryz.underlying23 rfl (by kernel_rfl))) rfl ⟨rfl, UB⟩
  ·have hq : ¬ (shK f y0 i).t ≤ t := by have := HGT.out i (by omega) (by omega); omega
   obtain ⟨j, rfl⟩ : ∃ j, i = j + 1 := ⟨i - 1, by omega⟩
   go_wp2
   go_roundw
   case rel => exact ⟨j, by simp, by omega, by omega, by first | rfl | trivial⟩
   case measure => simp [intOf]; omega
theorem rat_no (f : Ft) (t er : Int)
  (NR : Hid (∀ w : World, Calls Tryz.prog 107 #[.agg #[.bool f.h, vi ki f.fr, vi ki f.off, vi ki f.A.m, vi ki f.A.k, vi ki f.A.d, vi ki f.A.n, vi ki f.A.s, .int .u8 f.A.z, vi ki f.A.v, .string f.A.t, vi ki f.B.m, vi ki f.B.k, vi ki f.B.d, vi ki f.B.n, vi ki f.B.s, .int .u8 f.B.z, vi ki f.B.v, .string f.B.t], vi ki t] w fun e w' => e = zr (.tuple #[.slice none 0 0, vi ki er]) ∧ Below w.heap.size w w'))
  (w : World) :
  Calls Tryz.prog 55 #[.agg #[.bool f.h, vi ki f.fr, vi ki f.off, vi ki f.A.m, vi ki f.A.k, vi ki f.A.d, vi ki f.A.n, vi ki f.A.s, .int .u8 f.A.z, vi ki f.A.v, .string f.A.t, vi ki f.B.m, vi ki f.B.k, vi ki f.B.d, vi ki f.B.n, vi ki f.B.s, .int .u8 f.B.z, vi ki f.B.v, .string f.B.t], vi ki t] w fun e w' => e = zr (.tuple #[.agg z4.toArray, vi ki er]) ∧ Below w.heap.size w w' := by
 have HB : Hid (Below w.heap.size w ((w.alloc (.cells #[.bool f.h, vi ki f.fr, vi ki f.off, vi ki f.A.m, vi ki f.A.k, vi ki f.A.d, vi ki f.A.n, vi ki f.A.s, .int .u8 f.A.z, vi ki f.A.v, .string f.A.t, vi ki f.B.m, vi ki f.B.k, vi ki f.B.d, vi ki f.B.n, vi ki f.B.s, .int .u8 f.B.z, vi ki f.B.v, .string f.B.t] 32)).alloc (.cells #[vi ki 0, vi ki 0, .bool false, .string ⟨#[]⟩] 23))) := (((Below.refl _ _).alloc (by simp <;> omega) _).alloc (by simp <;> omega) _)
 have X0 : Hid (Bx ((w.alloc (.cells #[.bool f.h, vi ki f.fr, vi ki f.off, vi ki f.A.m, vi ki f.A.k, vi ki f.A.d, vi ki f.A.n, vi ki f.A.s, .int .u8 f.A.z, vi ki f.A.v, .string f.A.t, vi ki f.B.m, vi ki f.B.k, vi ki f.B.d, vi ki f.B.n, vi ki f.B.s, .int .u8 f.B.z, vi ki f.B.v, .string f.B.t] 32)).alloc (.cells #[vi ki 0, vi ki 0, .bool false, .string ⟨#[]⟩] 23)) (w.heap.size) ([.bool f.h, vi ki f.fr, vi ki f.off, vi ki f.A.m, vi ki f.A.k, vi ki f.A.d, vi ki f.A.n, vi ki f.A.s, .int .u8 f.A.z, vi ki f.A.v, .string f.A.t, vi ki f.B.m, vi ki f.B.k, vi ki f.B.d, vi ki f.B.n, vi ki f.B.s, .int .u8 f.B.z, vi ki f.B.v, .string f.B.t])) := ((Bx.newAt w ([.bool f.h, vi ki f.fr, vi ki f.off, vi ki f.A.m, vi ki f.A.k, vi ki f.A.d, vi ki f.A.n, vi ki f.A.s, .int .u8 f.A.z, vi ki f.A.v, .string f.A.t, vi ki f.B.m, vi ki f.B.k, vi ki f.B.d, vi ki f.B.n, vi ki f.B.s, .int .u8 f.B.z, vi ki f.B.v, .string f.B.t]) _ _ (by simp)).alloc _)
 have X1 : Hid (Bx ((w.alloc (.cells #[.bool f.h, vi ki f.fr, vi ki f.off, vi ki f.A.m, vi ki f.A.k, vi ki f.A.d, vi ki f.A.n, vi ki f.A.s, .int .u8 f.A.z, vi ki f.A.v, .string f.A.t, vi ki f.B.m, vi ki f.B.k, vi ki f.B.d, vi ki f.B.n, vi ki f.B.s, .int .u8 f.B.z, vi ki f.B.v, .string f.B.t] 32)).alloc (.cells #[vi ki 0, vi ki 0, .bool false, .string ⟨#[]⟩] 23)) (w.heap.size + 1) (z4)) := (Bx.newAt (w.alloc (.cells #[.bool f.h, vi ki f.fr, vi ki f.off, vi ki f.A.m, vi ki f.A.k, vi ki f.A.d, vi ki f.A.n, vi ki f.A.s, .int .u8 f.A.z, vi ki f.A.v, .string f.A.t, vi ki f.B.m, vi ki f.B.k, vi ki f.B.d, vi ki f.B.n, vi ki f.B.s, .int .u8 f.B.z, vi ki f.B.v, .string f.B.t] 32)) (z4) _ _ (by simp))
 go_enter Tryz.func55, Tryz.ntmps55
 go_wp2_with (first | (refine wpList_load_mid rfl 32 _ rfl w.heap.size 0 rfl [.bool f.h, vi ki f.fr, vi ki f.off, vi ki f.A.m, vi ki f.A.k, vi ki f.A.d, vi ki f.A.n, vi ki f.A.s, .int .u8 f.A.z, vi ki f.A.v, .string f.A.t, vi ki f.B.m, vi ki f.B.k, vi ki f.B.d, vi ki f.B.n, vi ki f.B.s, .int .u8 f.B.z, vi ki f.B.v, .string f.B.t] _ X0.out.all Tryz.underlying32 rfl (by kernel_rfl) ?_) | fail)
 refine (NR.out _).mono ?_
 rintro e w1 ⟨rfl, hb⟩
 have B1 : Hid (Below w.heap.size w w1) := HB.out.trans (hb.mono HB.out.size)
 have Y1 : Hid (Bx w1 (w.heap.size + 1) z4) := X1.out.below hb
 clear hb HB X0 X1 NR
 go_wp2_with fail
 go_loopw [8] (fun iv wr => iv = vi ki (-1) ∧ wr = w1) (fun _ _ => 0)
 case atStart => exact ⟨rfl, rfl⟩
 case round =>
  obtain ⟨rfl, rfl⟩ := hrel
  go_wp2_with (first | (refine wpList_store_mid rfl 23 _ _ rfl (w.heap.size + 1) 0 z4.toArray rfl rfl Y1.out.there (by kernel_rfl) z4_one ?_; refine gen_list (fun V => Bx V (w.heap.size + 1) z4 ∧ Below w.heap.size w V) ⟨Y1.out.setAll z4 rfl, below_setCells (by omega) _ _ _ B1.out⟩ ?_; rintro V ⟨U1, UB⟩) | fail)
  exact bodyPost_ret (v := .tuple #[.agg z4.toArray, vi ki er]) (results_cell_t rfl _ _ _ _ _ rfl rfl (run_loadVar_mid _ _ _ _ z4 _ U1.all Tryz.underlying23 rfl (by kernel_rfl))) rfl ⟨rfl, UB⟩
end Go.Proofs.YtklehbmghjcmaaaGreatDoor.Fn
namespace Go.Proofs.YtklehbmghjcmaaaGreatDoor
open Go.RowKit Sr
theorem rfoot_eq (f : Fn.Ft) (w : World) : (Op.equalIn 10000 32 (.agg (Fn.fL f).toArray) (.agg zeF.toArray)).run Tryz.prog w = .ok (footZ f) w := by
 rw [run_equalIn_struct w 9999 32 _ _ (by kernel_rfl) (by kernel_rfl)]
 unfold Fn.fL zeF
 go_simp
 simp only [ite_ok, ite_ok']
 congr 1
 rw [Bool.eq_iff_iff]
 simp only [footZ, halfZ, Bool.and_eq_true, decide_eq_true_eq, beq_iff_eq, Bool.not_eq_true', Bool.not_eq_true, and_assoc, and_true]
theorem rright_none (nm : ByteArray) (f : TrR) (sv : Value) (FL : List Value) (hF : FL.length = 19) (L : List TrR) (h0 : f.at_ = 0) (h1 : offR f.off = true) (h4 : L.length ≤ 4096) (hok : ∀ j, j < L.length → OkR L j) (z : Bool) (f0 : FL[0]? = some (.bool false)) (EQ : Hid (∀ W : World, (Op.equalIn 10000 32 (.agg FL.toArray) (.agg zeF.toArray)).run Tryz.prog W = .ok z W)) (w : World) (HT : Hid (TrAt w sv L)) :
  Calls Tryz.prog 21 #[.agg (tbF nm f sv FL).toArray] w fun r w' => r = zr (.bool z) ∧ Below w.heap.size w w' := by
 have X1 : Hid (Bx (w.alloc (.cells (tbF nm f sv FL).toArray 34)) w.heap.size (tbF nm f sv FL)) := Bx.new w _ _
 have B1 : Hid (Below w.heap.size w (w.alloc (.cells (tbF nm f sv FL).toArray 34))) := (Below.refl _ _).alloc (Nat.le_refl _) _
 have OF : Hid (∀ W : World, Calls Tryz.prog 53 #[.agg #[vi ki 0, vi ki f.off, .bool f.dst, .string f.ab]] W fun r w' => r = zr (.bool true) ∧ Below W.heap.size W w') := fun W => roff_run ⟨0, f.off, f.dst, f.ab⟩ true h1.symm W
 have HALL : Hid (∀ j, j < L.length → OkR L j) := hok
 obtain ⟨⟨ao, c, hsv⟩, hml, _⟩ := HT.out
 obtain ⟨n, hn⟩ : ∃ n, L.length = n := ⟨_, rfl⟩
 rw [hn] at hsv h4
 clear hml h1 hok
 go_enter Tryz.func21, Tryz.ntmps21
 generalize hUA : (tbF nm f sv FL).toArray = UA at *
 go_upto_region 1 with fail
 refine gen_code (fun V => Bx V w.heap.size (tbF nm f sv FL) ∧ Below w.heap.size w V) ⟨X1.out, B1.out⟩ ?_
 clear X1 B1
 rintro V ⟨XV, BV⟩
 have r1 : V.cell? ⟨w.heap.size, 1, none⟩ = some (vi ki 0) := by have := XV.c 1 (v := vi ki f.at_) rfl; rw [h0] at this; exact this
 have r2 : V.cell? ⟨w.heap.size, 2, none⟩ = some (vi ki f.off) := XV.c 2 rfl
 have r3 : V.cell? ⟨w.heap.size, 3, none⟩ = some (.bool f.dst) := XV.c 3 rfl
 have r4 : V.cell? ⟨w.heap.size, 4, none⟩ = some (.string f.ab) := XV.c 4 rfl
 have HX : Hid (Bx V w.heap.size (tbF nm f sv FL)) := XV
 have HB : Hid (Below w.heap.size w V) := BV
 clear XV BV
 go_wp2_with fail
 refine (OF.out _).mono ?_
 rintro e v1 ⟨rfl, hb⟩
 have HX1 : Hid (Bx v1 w.heap.size (tbF nm f sv FL)) := HX.out.below hb
 have HB1 : Hid (Below w.heap.size w v1) := HB.out.trans (hb.mono HB.out.size)
 clear hb HX HB r1 r2 r3 r4 OF
 have q1 : v1.cell? ⟨w.heap.size, 1, none⟩ = some (vi ki 0) := by have := HX1.out.c 1 (v := vi ki f.at_) rfl; rw [h0] at this; exact this
 have q5 : v1.cell? ⟨w.heap.size, 5, none⟩ = some (.slice ao n c) := by have := HX1.out.c 5 (v := sv) rfl; rw [hsv] at this; exact this
 go_wp2_with fail
 go_loopw [3, 4] (fun lv iv wr => ∃ i : Nat, i ≤ n ∧ iv = vi ki (i : Int) ∧ lv = vi ki (lastA L i) ∧ Hid (∀ j, j < i → OkR L j) ∧ Hid (Bx wr w.heap.size (tbF nm f sv FL)) ∧ Hid (Below w.heap.size w wr)) (fun _ iv _ => n - (intOf iv).toNat)
 case atStart => exact ⟨0, Nat.zero_le _, rfl, rfl, fun j hj => absurd hj (Nat.not_lt_zero _), HX1, HB1⟩
 case round =>
  clear HX1 HB1 q1 q5
  obtain ⟨i, hi, rfl, rfl, HOK, HX, HB⟩ := hrel
  have q5 : wr.cell? ⟨w.heap.size, 5, none⟩ = some (.slice ao n c) := by have := HX.out.c 5 (v := sv) rfl; rw [hsv] at this; exact this
  by_cases hin : i < n
  ·obtain ⟨x, hx, ho, h5', h6⟩ := HALL.out i (by omega)
   obtain ⟨g, o, c', hsv', hrg⟩ := (HT.out.mv HB.out).row hx
   rw [hn, hsv] at hsv'
   simp only [Value.slice.injEq, true_and] at hsv'
   obtain ⟨rfl, rfl⟩ := hsv'
   have HRG : Hid (wr.rangeAt g (o + i * 4) (trC x)) := hrg
   have HXn : Hid (Bx (wr.alloc (.cells #[vi ki x.at_, vi ki x.off, .bool x.dst, .string x.ab] 23)) w.heap.size (tbF nm f sv FL)) := HX.out.alloc _
   have HZn : Hid (Bx (wr.alloc (.cells #[vi ki x.at_, vi ki x.off, .bool x.dst, .string x.ab] 23)) wr.heap.size [vi ki x.at_, vi ki x.off, .bool x.dst, .string x.ab]) := Bx.new wr [vi ki x.at_, vi ki x.off, .bool x.dst, .string x.ab] _
   have HBn : Hid (Below w.heap.size w (wr.alloc (.cells #[vi ki x.at_, vi ki x.off, .bool x.dst, .string x.ab] 23))) := HB.out.alloc HB.out.size _
   have HLS : Hid (lastA L (i + 1) = x.at_) := lastA_succ hx
   have HOI : Hid (OkR L i) := ⟨x, hx, ho, h5', h6⟩
   obtain ⟨la, hla⟩ : ∃ la, la = lastA L i := ⟨_, rfl⟩
   rw [← hla] at h5' ⊢
   clear hrg hx HX HB hla
   go_upto_region 8 with (first | (refine wpList_load_mid rfl 23 _ rfl g (o + i * 4) rfl [vi ki x.at_, vi ki x.off, .bool x.dst, .string x.ab] _ HRG.out Tryz.underlying23 rfl (by kernel_rfl) ?_) | fail)
   refine gen_code (fun V => Bx V w.heap.size (tbF nm f sv FL) ∧ Bx V wr.heap.size [vi ki x.at_, vi ki x.off, .bool x.dst, .string x.ab] ∧ Below w.heap.size w V) ⟨HXn.out, HZn.out, HBn.out⟩ ?_
   clear HXn HZn HBn HRG q5
   rintro V9 ⟨XV, ZV, BV⟩
   have OX : Hid (∀ W : World, Calls Tryz.prog 53 #[.agg #[vi ki x.at_, vi ki x.off, .bool x.dst, .string x.ab]] W fun r w' => r = zr (.bool true) ∧ Below W.heap.size W w') := fun W => roff_run x true ho.symm W
   have z0 : V9.cell? ⟨wr.heap.size, 0, none⟩ = some (vi ki x.at_) := ZV.c 0 rfl
   have z1 : V9.cell? ⟨wr.heap.size, 1, none⟩ = some (vi ki x.off) := ZV.c 1 rfl
   have z2 : V9.cell? ⟨wr.heap.size, 2, none⟩ = some (.bool x.dst) := ZV.c 2 rfl
   have z3 : V9.cell? ⟨wr.heap.size, 3, none⟩ = some (.string x.ab) := ZV.c 3 rfl
   have HX9 : Hid (Bx V9 w.heap.size (tbF nm f sv FL)) := XV
   have HZ9 : Hid (Bx V9 wr.heap.size [vi ki x.at_, vi ki x.off, .bool x.dst, .string x.ab]) := ZV
   have HB9 : Hid (Below w.heap.size w V9) := BV
   clear XV ZV BV
   go_wp2_with fail
   refine (OX.out _).mono ?_
   rintro e v2 ⟨rfl, hb⟩
   have HX2 : Hid (Bx v2 w.heap.size (tbF nm f sv FL)) := HX9.out.below hb
   have y0 : v2.cell? ⟨wr.heap.size, 0, none⟩ = some (vi ki x.at_) := (HZ9.out.below hb).c 0 rfl
   have HB2 : Hid (Below w.heap.size w v2) := HB9.out.trans (hb.mono HB9.out.size)
   clear hb HX9 HZ9 HB9 z0 z1 z2 z3 OX
   have h5 : ¬ x.at_ ≤ la := by omega
   have h7 : ¬ 1125899906842624 < x.at_ := by omega
   have HOK' : Hid (∀ j, j < i + 1 → OkR L j) := fun j hj => by
    by_cases e : j = i
    ·rw [e]; exact HOI.out
    ·exact HOK.out j (by omega)
   clear HOI HOK ho h5' h6
   go_wp2_with fail
   exact ⟨⟨i + 1, by omega, by simp, by rw [HLS.out], HOK', HX2, HB2⟩, by simp [intOf]; omega⟩
  ·have q6 : wr.cell? ⟨w.heap.size, 6, none⟩ = some (.bool false) := HX.out.c 6 ((tbF_foot 0).trans f0)
   have Y0 : Hid (Bx (wr.alloc (.cells zeF.toArray 32)) w.heap.size (tbF nm f sv FL)) := HX.out.alloc _
   have Y1 : Hid (Bx (wr.alloc (.cells zeF.toArray 32)) wr.heap.size zeF) := Bx.new wr zeF _
   have YB : Hid (Below w.heap.size w (wr.alloc (.cells zeF.toArray 32))) := HB.out.alloc HB.out.size _
   clear HOK HALL
   go_upto_region 13 with fail
   refine gen_code (fun V => Bx V w.heap.size (tbF nm f sv FL) ∧ Bx V wr.heap.size zeF ∧ Below w.heap.size w V) ⟨Y0.out, Y1.out, YB.out⟩ ?_
   clear Y0 Y1 YB HX HB q5 q6
   rintro V5 ⟨XV, ZV, BV⟩
   have HR : Hid (V5.rangeAt w.heap.size 6 FL) := fun j v hv => (XV.2 (6 + j) v ((tbF_foot j).trans hv)).1
   obtain ⟨ZF, hZF⟩ : ∃ ZF, zeF = ZF := ⟨_, rfl⟩
   have hz19 : ZF.length = 19 := by rw [← hZF]; rfl
   rw [hZF] at ZV EQ
   have HZ : Hid (V5.rangeAt wr.heap.size 0 ZF) := ZV.all
   have HB5 : Hid (Below w.heap.size w V5) := BV
   have hEQ := EQ.out
   clear XV ZV BV hZF EQ
   go_wp2_with (first | (refine wpList_load_mid rfl 32 _ rfl w.heap.size 6 rfl FL _ HR.out Tryz.underlying32 rfl (by rw [hF]; kernel_rfl) ?_) | (refine wpList_load_mid rfl 32 _ rfl wr.heap.size 0 rfl ZF _ HZ.out Tryz.underlying32 rfl (by rw [hz19]; kernel_rfl) ?_) | fail)
   go_ret
   exact ⟨rfl, HB5.out⟩
end Go.Proofs.YtklehbmghjcmaaaGreatDoor
