import Derived.Test.YtklehbmghjcmaaaGreatDoorSz
import Derived.Test.YtklehbmghjcmaaaGreatDoorS31
import Derived.Test.YtklehbmghjcmaaaGreatDoorS3
import Derived.Test.YtklehbmghjcmaaaGreatDoorS19
import Derived.Test.YtklehbmghjcmaaaGreatDoorS30
import Derived.Test.YtklehbmghjcmaaaGreatDoorS7
open Go.Value renaming int → vi
open Go.IntKind renaming i64 → ki
open List renaming setIfInBounds_toArray → zb, set_cons_zero → zc, set_cons_succ → zd
open Go.Act renaming put → za
open Go.Ending renaming returned → zr
set_option maxRecDepth 100000
set_option maxHeartbeats 16000000
set_option linter.unusedVariables false
namespace Go.Proofs.YtklehbmghjcmaaaGreatDoor.Fn
open Go.RowKit
theorem own_lt {W : World} {b : Nat} {e : TypeId} {sz n : Nat} {v : Value} {xs : List Value} (h : W.ownsRow (b + 1) e sz v n xs) (r : Nat) (hr : v.ownBlock = some r) : b < r := by
 rcases h.2 with ⟨rfl, _⟩ | ⟨g, cap, cur, rfl, q, _⟩
 ·simp [Value.ownBlock] at hr
 ·simp [Value.ownBlock] at hr; omega
theorem own_ne {W : World} {b : Nat} {e : TypeId} {sz n : Nat} {v : Value} {xs : List Value} (h : W.ownsRow (b + 1) e sz v n xs) (r : Nat) (hr : v.ownBlock = some r) : r ≠ b := by
 have := own_lt h r hr
 omega
theorem rowsK_two (f : Ft) (y0 : Int) (i : Nat) : rowsK f y0 (2 * (i + 1)) = rowsK f y0 (2 * i) ++ (tL (sh1 f (y0 + i)) ++ tL (sh2 f (y0 + i))) := by
 rw [show 2 * (i + 1) = 2 * i + 1 + 1 by omega]
 show (rowsK f y0 (2 * i) ++ tL (shK f y0 (2 * i))) ++ tL (shK f y0 (2 * i + 1)) = _
 rw [shK_0, shK_1, List.append_assoc]
theorem rowsK_len (f : Ft) (y0 : Int) : ∀ n : Nat, (rowsK f y0 n).length = 4 * n
 | 0 => rfl
 | n + 1 => by
  show (rowsK f y0 n ++ tL (shK f y0 n)).length = _
  rw [List.length_append, rowsK_len f y0 n]
  show 4 * n + 4 = _
  omega
theorem rowsK_at (f : Ft) (y0 : Int) (k c : Nat) (hc : c < 4) : ∀ n : Nat, k < n → (rowsK f y0 n)[4 * k + c]? = (tL (shK f y0 k))[c]?
 | 0, h => by omega
 | n + 1, h => by
  show (rowsK f y0 n ++ tL (shK f y0 n))[4 * k + c]? = _
  by_cases e : k = n
  ·subst e
   rw [List.getElem?_append_right (by rw [rowsK_len]; omega), rowsK_len, show 4 * k + c - 4 * k = c by omega]
  ·rw [List.getElem?_append_left (by rw [rowsK_len]; omega)]
   exact rowsK_at f y0 k c hc n (by omega)
theorem tL_mem2 {p q : Tr} {v : Value} (hv : v ∈ tL p ++ tL q) : v.oneCell' = true := by
 rcases List.mem_append.1 hv with h | h
 ·exact tL_mem h
 ·exact tL_mem h
theorem near_ok (f : Ft) (t y : Int) (y1 : -4714 ≤ y) (y2 : y ≤ 294278)
  (RC : Hid (∀ w : World, Calls Tryz.prog 151 #[.agg #[.bool f.h, vi ki f.fr, vi ki f.off, vi ki f.A.m, vi ki f.A.k, vi ki f.A.d, vi ki f.A.n, vi ki f.A.s, .int .u8 f.A.z, vi ki f.A.v, .string f.A.t, vi ki f.B.m, vi ki f.B.k, vi ki f.B.d, vi ki f.B.n, vi ki f.B.s, .int .u8 f.B.z, vi ki f.B.v, .string f.B.t]] w fun e w' => e = zr (.bool true) ∧ Below w.heap.size w w'))
  (YA : Hid (∀ w : World, Calls Tryz.prog 54 #[vi ki t] w fun e w' => e = zr (vi ki y) ∧ w' = w))
  (YE : Hid (∀ (i : Nat), i < 5 → ∀ w : World, Cvl.Lens w → Clk.Tab w → Calls Tryz.prog 136 #[.agg #[.bool f.h, vi ki f.fr, vi ki f.off, vi ki f.A.m, vi ki f.A.k, vi ki f.A.d, vi ki f.A.n, vi ki f.A.s, .int .u8 f.A.z, vi ki f.A.v, .string f.A.t, vi ki f.B.m, vi ki f.B.k, vi ki f.B.d, vi ki f.B.n, vi ki f.B.s, .int .u8 f.B.z, vi ki f.B.v, .string f.B.t], vi ki (y - 2 + i)] w fun e w' => ∃ g, e = zr (.tuple #[.slice (some ⟨g, 0, none⟩) 2 2, vi ki 0]) ∧ Bx w' g (tL (sh1 f (y - 2 + i)) ++ tL (sh2 f (y - 2 + i))) ∧ Below w.heap.size w w'))
  (w : World) (hL0 : Hid (Cvl.Lens w)) (hT0 : Hid (Clk.Tab w)) :
  Calls Tryz.prog 107 #[.agg #[.bool f.h, vi ki f.fr, vi ki f.off, vi ki f.A.m, vi ki f.A.k, vi ki f.A.d, vi ki f.A.n, vi ki f.A.s, .int .u8 f.A.z, vi ki f.A.v, .string f.A.t, vi ki f.B.m, vi ki f.B.k, vi ki f.B.d, vi ki f.B.n, vi ki f.B.s, .int .u8 f.B.z, vi ki f.B.v, .string f.B.t], vi ki t] w fun e w' => ∃ v, e = zr (.tuple #[v, vi ki 0]) ∧ w'.ownsRow (w.heap.size + 1) 23 4 v 10 (rowsK f (y - 2) 10) ∧ Below w.heap.size w w' := by
 have B0 : Hid (Below w.heap.size w (w.alloc (.cells #[.bool f.h, vi ki f.fr, vi ki f.off, vi ki f.A.m, vi ki f.A.k, vi ki f.A.d, vi ki f.A.n, vi ki f.A.s, .int .u8 f.A.z, vi ki f.A.v, .string f.A.t, vi ki f.B.m, vi ki f.B.k, vi ki f.B.d, vi ki f.B.n, vi ki f.B.s, .int .u8 f.B.z, vi ki f.B.v, .string f.B.t] 32))) := (Below.refl _ _).alloc (Nat.le_refl _) _
 have X0 : Hid (Bx (w.alloc (.cells #[.bool f.h, vi ki f.fr, vi ki f.off, vi ki f.A.m, vi ki f.A.k, vi ki f.A.d, vi ki f.A.n, vi ki f.A.s, .int .u8 f.A.z, vi ki f.A.v, .string f.A.t, vi ki f.B.m, vi ki f.B.k, vi ki f.B.d, vi ki f.B.n, vi ki f.B.s, .int .u8 f.B.z, vi ki f.B.v, .string f.B.t] 32)) w.heap.size [.bool f.h, vi ki f.fr, vi ki f.off, vi ki f.A.m, vi ki f.A.k, vi ki f.A.d, vi ki f.A.n, vi ki f.A.s, .int .u8 f.A.z, vi ki f.A.v, .string f.A.t, vi ki f.B.m, vi ki f.B.k, vi ki f.B.d, vi ki f.B.n, vi ki f.B.s, .int .u8 f.B.z, vi ki f.B.v, .string f.B.t]) := Bx.new w [.bool f.h, vi ki f.fr, vi ki f.off, vi ki f.A.m, vi ki f.A.k, vi ki f.A.d, vi ki f.A.n, vi ki f.A.s, .int .u8 f.A.z, vi ki f.A.v, .string f.A.t, vi ki f.B.m, vi ki f.B.k, vi ki f.B.d, vi ki f.B.n, vi ki f.B.s, .int .u8 f.B.z, vi ki f.B.v, .string f.B.t] _
 have h1 : ¬ y < -4714 := by omega
 have h2 : ¬ 294278 < y := by omega
 obtain ⟨i0, hi, hz0, hz1, hz2⟩ := info_parts infoT
 go_enter Tryz.func107, Tryz.ntmps107
 go_wp2_with (first | (refine wpList_load_mid rfl 32 _ rfl w.heap.size 0 rfl [.bool f.h, vi ki f.fr, vi ki f.off, vi ki f.A.m, vi ki f.A.k, vi ki f.A.d, vi ki f.A.n, vi ki f.A.s, .int .u8 f.A.z, vi ki f.A.v, .string f.A.t, vi ki f.B.m, vi ki f.B.k, vi ki f.B.d, vi ki f.B.n, vi ki f.B.s, .int .u8 f.B.z, vi ki f.B.v, .string f.B.t] _ X0.out.all Tryz.underlying32 rfl (by kernel_rfl) ?_) | fail)
 refine (RC.out _).mono ?_
 rintro e w1 ⟨rfl, hb⟩
 have B1 : Hid (Below w.heap.size w w1) := B0.out.trans (hb.mono B0.out.size)
 have X1 : Hid (Bx w1 w.heap.size [.bool f.h, vi ki f.fr, vi ki f.off, vi ki f.A.m, vi ki f.A.k, vi ki f.A.d, vi ki f.A.n, vi ki f.A.s, .int .u8 f.A.z, vi ki f.A.v, .string f.A.t, vi ki f.B.m, vi ki f.B.k, vi ki f.B.d, vi ki f.B.n, vi ki f.B.s, .int .u8 f.B.z, vi ki f.B.v, .string f.B.t]) := X0.out.below hb
 clear hb B0 X0 RC
 go_wp2_with fail
 refine (YA.out _).mono ?_
 rintro e w2 ⟨rfl, rfl⟩
 go_wp2_with fail
 go_loopw [7, 8] (fun v kv wr => ∃ i : Nat, kv = vi ki (y - 2 + i) ∧ i ≤ 5 ∧ wr.ownsRow (w.heap.size + 1) 23 4 v (2 * i) (rowsK f (y - 2) (2 * i)) ∧ Bx wr w.heap.size [.bool f.h, vi ki f.fr, vi ki f.off, vi ki f.A.m, vi ki f.A.k, vi ki f.A.d, vi ki f.A.n, vi ki f.A.s, .int .u8 f.A.z, vi ki f.A.v, .string f.A.t, vi ki f.B.m, vi ki f.B.k, vi ki f.B.d, vi ki f.B.n, vi ki f.B.s, .int .u8 f.B.z, vi ki f.B.v, .string f.B.t] ∧ Below w.heap.size w wr) (fun _ kv _ => (y + 3 - intOf kv).toNat)
 case atStart => exact ⟨0, by simp, by omega, World.ownsRow_nil _ _ _ _, X1.out, B1.out⟩
 case round =>
  obtain ⟨i, rfl, hi5, hr0, hx0, hb0⟩ := hrel
  have HR : Hid (wr.ownsRow (w.heap.size + 1) 23 4 u7 (2 * i) (rowsK f (y - 2) (2 * i))) := hr0
  have HX : Hid (Bx wr w.heap.size [.bool f.h, vi ki f.fr, vi ki f.off, vi ki f.A.m, vi ki f.A.k, vi ki f.A.d, vi ki f.A.n, vi ki f.A.s, .int .u8 f.A.z, vi ki f.A.v, .string f.A.t, vi ki f.B.m, vi ki f.B.k, vi ki f.B.d, vi ki f.B.n, vi ki f.B.s, .int .u8 f.B.z, vi ki f.B.v, .string f.B.t]) := hx0
  have HB : Hid (Below w.heap.size w wr) := hb0
  clear hr0 hx0 hb0 X1 B1
  by_cases hlt : i < 5
  ·have hle : y - 2 + (i : Int) ≤ y + 2 := by omega
   have YI := YE.out i hlt
   have YJ : Hid (∀ w : World, Cvl.Lens w → Clk.Tab w → Calls Tryz.prog 136 #[.agg #[.bool f.h, vi ki f.fr, vi ki f.off, vi ki f.A.m, vi ki f.A.k, vi ki f.A.d, vi ki f.A.n, vi ki f.A.s, .int .u8 f.A.z, vi ki f.A.v, .string f.A.t, vi ki f.B.m, vi ki f.B.k, vi ki f.B.d, vi ki f.B.n, vi ki f.B.s, .int .u8 f.B.z, vi ki f.B.v, .string f.B.t], vi ki (y - 2 + i)] w fun e w' => ∃ g, e = zr (.tuple #[.slice (some ⟨g, 0, none⟩) 2 2, vi ki 0]) ∧ Bx w' g (tL (sh1 f (y - 2 + i)) ++ tL (sh2 f (y - 2 + i))) ∧ Below w.heap.size w w') := YI
   clear YI
   go_wp2_with (first | (refine wpList_load_mid rfl 32 _ rfl w.heap.size 0 rfl [.bool f.h, vi ki f.fr, vi ki f.off, vi ki f.A.m, vi ki f.A.k, vi ki f.A.d, vi ki f.A.n, vi ki f.A.s, .int .u8 f.A.z, vi ki f.A.v, .string f.A.t, vi ki f.B.m, vi ki f.B.k, vi ki f.B.d, vi ki f.B.n, vi ki f.B.s, .int .u8 f.B.z, vi ki f.B.v, .string f.B.t] _ HX.out.all Tryz.underlying32 rfl (by kernel_rfl) ?_) | fail)
   refine (YJ.out _ (bel_lens HB.out hL0.out) (hT0.out.below HB.out)).mono ?_
   rintro e w3 ⟨g, rfl, hg, hb⟩
   have HR3 : Hid (w3.ownsRow (w.heap.size + 1) 23 4 u7 (2 * i) (rowsK f (y - 2) (2 * i))) := HR.out.kept (grown_of_below (row := none) hb) (by cases u7.ownBlock <;> simp)
   have HX3 : Hid (Bx w3 w.heap.size [.bool f.h, vi ki f.fr, vi ki f.off, vi ki f.A.m, vi ki f.A.k, vi ki f.A.d, vi ki f.A.n, vi ki f.A.s, .int .u8 f.A.z, vi ki f.A.v, .string f.A.t, vi ki f.B.m, vi ki f.B.k, vi ki f.B.d, vi ki f.B.n, vi ki f.B.s, .int .u8 f.B.z, vi ki f.B.v, .string f.B.t]) := HX.out.below hb
   have HB3 : Hid (Below w.heap.size w w3) := HB.out.trans (hb.mono HB.out.size)
   have HG : Hid (Bx w3 g (tL (sh1 f (y - 2 + i)) ++ tL (sh2 f (y - 2 + i)))) := hg
   clear hg hb HR HX HB YJ
   go_wp2_with (at_builtin; refine wpList_append_own _ rfl _ _ 24 rfl (w.heap.size + 1) 23 i0 (.agg #[vi ki 0, vi ki 0, .bool false, .string ⟨#[]⟩]) 4 40 Tryz.underlying24 hi hz0 hz1 hz2 rfl (by decide) u7 (2 * i) (rowsK f (y - 2) (2 * i)) rfl HR3.out ⟨g, 0, none⟩ 2 2 (tL (sh1 f (y - 2 + i)) ++ tL (sh2 f (y - 2 + i))) rfl rfl (fun j u hu => by rw [Addr.add_mid, Nat.zero_add]; exact (HG.out.2 j u hu).1) (fun u hu => tL_mem2 hu) (by unfold maxLen; omega) (by omega) (by have := HX3.out.1; omega) ?_; intro v' w4 hown' hgrow _; have HR4 : Hid (w4.ownsRow (w.heap.size + 1) 23 4 v' (2 * (i + 1)) (rowsK f (y - 2) (2 * (i + 1)))) := (by rw [rowsK_two]; exact hown'); have HX4 : Hid (Bx w4 w.heap.size [.bool f.h, vi ki f.fr, vi ki f.off, vi ki f.A.m, vi ki f.A.k, vi ki f.A.d, vi ki f.A.n, vi ki f.A.s, .int .u8 f.A.z, vi ki f.A.v, .string f.A.t, vi ki f.B.m, vi ki f.B.k, vi ki f.B.d, vi ki f.B.n, vi ki f.B.s, .int .u8 f.B.z, vi ki f.B.v, .string f.B.t]) := HX3.out.grownR hgrow (own_ne HR3.out); have HB4 : Hid (Below w.heap.size w w4) := HB3.out.grown hgrow HB3.out.size (fun r e => Nat.le_of_lt (own_lt HR3.out r e)); obtain ⟨g', cap', rfl⟩ := ownsRow_succ hown'; clear hown' hgrow HR3 HX3 HB3 HG)
   refine ⟨⟨i + 1, by rw [show y - 2 + ((i + 1 : Nat) : Int) = y - 2 + i + 1 by omega], by omega, HR4.out, HX4.out, HB4.out⟩, ?_⟩
   simp [intOf]; omega
  ·obtain rfl : i = 5 := by omega
   have hle : ¬ y - 2 + ((5 : Nat) : Int) ≤ y + 2 := by omega
   go_wp2
   go_ret2
   exact ⟨_, rfl, HR.out, HB.out⟩
theorem near_arg (f : Ft) (t : Int)
  (RC : Hid (∀ w : World, Calls Tryz.prog 151 #[.agg #[.bool f.h, vi ki f.fr, vi ki f.off, vi ki f.A.m, vi ki f.A.k, vi ki f.A.d, vi ki f.A.n, vi ki f.A.s, .int .u8 f.A.z, vi ki f.A.v, .string f.A.t, vi ki f.B.m, vi ki f.B.k, vi ki f.B.d, vi ki f.B.n, vi ki f.B.s, .int .u8 f.B.z, vi ki f.B.v, .string f.B.t]] w fun e w' => e = zr (.bool false) ∧ Below w.heap.size w w')) (w : World) :
  Calls Tryz.prog 107 #[.agg #[.bool f.h, vi ki f.fr, vi ki f.off, vi ki f.A.m, vi ki f.A.k, vi ki f.A.d, vi ki f.A.n, vi ki f.A.s, .int .u8 f.A.z, vi ki f.A.v, .string f.A.t, vi ki f.B.m, vi ki f.B.k, vi ki f.B.d, vi ki f.B.n, vi ki f.B.s, .int .u8 f.B.z, vi ki f.B.v, .string f.B.t], vi ki t] w fun e w' => e = zr (.tuple #[.slice none 0 0, vi ki 1]) ∧ Below w.heap.size w w' := by
 have B0 : Hid (Below w.heap.size w (w.alloc (.cells #[.bool f.h, vi ki f.fr, vi ki f.off, vi ki f.A.m, vi ki f.A.k, vi ki f.A.d, vi ki f.A.n, vi ki f.A.s, .int .u8 f.A.z, vi ki f.A.v, .string f.A.t, vi ki f.B.m, vi ki f.B.k, vi ki f.B.d, vi ki f.B.n, vi ki f.B.s, .int .u8 f.B.z, vi ki f.B.v, .string f.B.t] 32))) := (Below.refl _ _).alloc (Nat.le_refl _) _
 have X0 : Hid (Bx (w.alloc (.cells #[.bool f.h, vi ki f.fr, vi ki f.off, vi ki f.A.m, vi ki f.A.k, vi ki f.A.d, vi ki f.A.n, vi ki f.A.s, .int .u8 f.A.z, vi ki f.A.v, .string f.A.t, vi ki f.B.m, vi ki f.B.k, vi ki f.B.d, vi ki f.B.n, vi ki f.B.s, .int .u8 f.B.z, vi ki f.B.v, .string f.B.t] 32)) w.heap.size [.bool f.h, vi ki f.fr, vi ki f.off, vi ki f.A.m, vi ki f.A.k, vi ki f.A.d, vi ki f.A.n, vi ki f.A.s, .int .u8 f.A.z, vi ki f.A.v, .string f.A.t, vi ki f.B.m, vi ki f.B.k, vi ki f.B.d, vi ki f.B.n, vi ki f.B.s, .int .u8 f.B.z, vi ki f.B.v, .string f.B.t]) := Bx.new w [.bool f.h, vi ki f.fr, vi ki f.off, vi ki f.A.m, vi ki f.A.k, vi ki f.A.d, vi ki f.A.n, vi ki f.A.s, .int .u8 f.A.z, vi ki f.A.v, .string f.A.t, vi ki f.B.m, vi ki f.B.k, vi ki f.B.d, vi ki f.B.n, vi ki f.B.s, .int .u8 f.B.z, vi ki f.B.v, .string f.B.t] _
 go_enter Tryz.func107, Tryz.ntmps107
 go_wp2_with (first | (refine wpList_load_mid rfl 32 _ rfl w.heap.size 0 rfl [.bool f.h, vi ki f.fr, vi ki f.off, vi ki f.A.m, vi ki f.A.k, vi ki f.A.d, vi ki f.A.n, vi ki f.A.s, .int .u8 f.A.z, vi ki f.A.v, .string f.A.t, vi ki f.B.m, vi ki f.B.k, vi ki f.B.d, vi ki f.B.n, vi ki f.B.s, .int .u8 f.B.z, vi ki f.B.v, .string f.B.t] _ X0.out.all Tryz.underlying32 rfl (by kernel_rfl) ?_) | fail)
 refine (RC.out _).mono ?_
 rintro e w1 ⟨rfl, hb⟩
 have B1 : Hid (Below w.heap.size w w1) := B0.out.trans (hb.mono B0.out.size)
 clear hb B0 X0 RC
 go_wp2
 go_ret2
 exact ⟨rfl, B1.out⟩
theorem near_range (f : Ft) (t y : Int) (h : y < -4714 ∨ (¬ y < -4714 ∧ 294278 < y))
  (RC : Hid (∀ w : World, Calls Tryz.prog 151 #[.agg #[.bool f.h, vi ki f.fr, vi ki f.off, vi ki f.A.m, vi ki f.A.k, vi ki f.A.d, vi ki f.A.n, vi ki f.A.s, .int .u8 f.A.z, vi ki f.A.v, .string f.A.t, vi ki f.B.m, vi ki f.B.k, vi ki f.B.d, vi ki f.B.n, vi ki f.B.s, .int .u8 f.B.z, vi ki f.B.v, .string f.B.t]] w fun e w' => e = zr (.bool true) ∧ Below w.heap.size w w'))
  (YA : Hid (∀ w : World, Calls Tryz.prog 54 #[vi ki t] w fun e w' => e = zr (vi ki y) ∧ w' = w)) (w : World) :
  Calls Tryz.prog 107 #[.agg #[.bool f.h, vi ki f.fr, vi ki f.off, vi ki f.A.m, vi ki f.A.k, vi ki f.A.d, vi ki f.A.n, vi ki f.A.s, .int .u8 f.A.z, vi ki f.A.v, .string f.A.t, vi ki f.B.m, vi ki f.B.k, vi ki f.B.d, vi ki f.B.n, vi ki f.B.s, .int .u8 f.B.z, vi ki f.B.v, .string f.B.t], vi ki t] w fun e w' => e = zr (.tuple #[.slice none 0 0, vi ki 10]) ∧ Below w.heap.size w w' := by
 have B0 : Hid (Below w.heap.size w (w.alloc (.cells #[.bool f.h, vi ki f.fr, vi ki f.off, vi ki f.A.m, vi ki f.A.k, vi ki f.A.d, vi ki f.A.n, vi ki f.A.s, .int .u8 f.A.z, vi ki f.A.v, .string f.A.t, vi ki f.B.m, vi ki f.B.k, vi ki f.B.d, vi ki f.B.n, vi ki f.B.s, .int .u8 f.B.z, vi ki f.B.v, .string f.B.t] 32))) := (Below.refl _ _).alloc (Nat.le_refl _) _
 have X0 : Hid (Bx (w.alloc (.cells #[.bool f.h, vi ki f.fr, vi ki f.off, vi ki f.A.m, vi ki f.A.k, vi ki f.A.d, vi ki f.A.n, vi ki f.A.s, .int .u8 f.A.z, vi ki f.A.v, .string f.A.t, vi ki f.B.m, vi ki f.B.k, vi ki f.B.d, vi ki f.B.n, vi ki f.B.s, .int .u8 f.B.z, vi ki f.B.v, .string f.B.t] 32)) w.heap.size [.bool f.h, vi ki f.fr, vi ki f.off, vi ki f.A.m, vi ki f.A.k, vi ki f.A.d, vi ki f.A.n, vi ki f.A.s, .int .u8 f.A.z, vi ki f.A.v, .string f.A.t, vi ki f.B.m, vi ki f.B.k, vi ki f.B.d, vi ki f.B.n, vi ki f.B.s, .int .u8 f.B.z, vi ki f.B.v, .string f.B.t]) := Bx.new w [.bool f.h, vi ki f.fr, vi ki f.off, vi ki f.A.m, vi ki f.A.k, vi ki f.A.d, vi ki f.A.n, vi ki f.A.s, .int .u8 f.A.z, vi ki f.A.v, .string f.A.t, vi ki f.B.m, vi ki f.B.k, vi ki f.B.d, vi ki f.B.n, vi ki f.B.s, .int .u8 f.B.z, vi ki f.B.v, .string f.B.t] _
 rcases h with h | ⟨h, h'⟩ <;>
 ·go_enter Tryz.func107, Tryz.ntmps107
  go_wp2_with (first | (refine wpList_load_mid rfl 32 _ rfl w.heap.size 0 rfl [.bool f.h, vi ki f.fr, vi ki f.off, vi ki f.A.m, vi ki f.A.k, vi ki f.A.d, vi ki f.A.n, vi ki f.A.s, .int .u8 f.A.z, vi ki f.A.v, .string f.A.t, vi ki f.B.m, vi ki f.B.k, vi ki f.B.d, vi ki f.B.n, vi ki f.B.s, .int .u8 f.B.z, vi ki f.B.v, .string f.B.t] _ X0.out.all Tryz.underlying32 rfl (by kernel_rfl) ?_) | fail)
  refine (RC.out _).mono ?_
  rintro e w1 ⟨rfl, hb⟩
  have B1 : Hid (Below w.heap.size w w1) := B0.out.trans (hb.mono B0.out.size)
  clear hb B0 X0 RC
  go_wp2_with fail
  refine (YA.out _).mono ?_
  rintro e w2 ⟨rfl, rfl⟩
  go_wp2
  go_ret2
  exact ⟨rfl, B1.out⟩
theorem rat_run (f : Ft) (t y0 : Int) (K : Nat) (hK : K < 10) (hle : (shK f y0 K).t ≤ t) (hgt : ∀ k, K < k → k < 10 → t < (shK f y0 k).t)
  (NR : Hid (∀ w : World, Cvl.Lens w → Clk.Tab w → Calls Tryz.prog 107 #[.agg #[.bool f.h, vi ki f.fr, vi ki f.off, vi ki f.A.m, vi ki f.A.k, vi ki f.A.d, vi ki f.A.n, vi ki f.A.s, .int .u8 f.A.z, vi ki f.A.v, .string f.A.t, vi ki f.B.m, vi ki f.B.k, vi ki f.B.d, vi ki f.B.n, vi ki f.B.s, .int .u8 f.B.z, vi ki f.B.v, .string f.B.t], vi ki t] w fun e w' => ∃ g cap, e = zr (.tuple #[.slice (some ⟨g, 0, none⟩) 10 cap, vi ki 0]) ∧ Bx w' g (rowsK f y0 10) ∧ Below w.heap.size w w'))
  (w : World) (hL0 : Hid (Cvl.Lens w)) (hT0 : Hid (Clk.Tab w)) :
  Calls Tryz.prog 55 #[.agg #[.bool f.h, vi ki f.fr, vi ki f.off, vi ki f.A.m, vi ki f.A.k, vi ki f.A.d, vi ki f.A.n, vi ki f.A.s, .int .u8 f.A.z, vi ki f.A.v, .string f.A.t, vi ki f.B.m, vi ki f.B.k, vi ki f.B.d, vi ki f.B.n, vi ki f.B.s, .int .u8 f.B.z, vi ki f.B.v, .string f.B.t], vi ki t] w fun e w' => e = zr (.tuple #[.agg (tL (shK f y0 K)).toArray, vi ki 0]) ∧ Below w.heap.size w w' := by
 have HB : Hid (Below w.heap.size w ((w.alloc (.cells #[.bool f.h, vi ki f.fr, vi ki f.off, vi ki f.A.m, vi ki f.A.k, vi ki f.A.d, vi ki f.A.n, vi ki f.A.s, .int .u8 f.A.z, vi ki f.A.v, .string f.A.t, vi ki f.B.m, vi ki f.B.k, vi ki f.B.d, vi ki f.B.n, vi ki f.B.s, .int .u8 f.B.z, vi ki f.B.v, .string f.B.t] 32)).alloc (.cells #[vi ki 0, vi ki 0, .bool false, .string ⟨#[]⟩] 23))) := (((Below.refl _ _).alloc (by simp <;> omega) _).alloc (by simp <;> omega) _)
 have X0 : Hid (Bx ((w.alloc (.cells #[.bool f.h, vi ki f.fr, vi ki f.off, vi ki f.A.m, vi ki f.A.k, vi ki f.A.d, vi ki f.A.n, vi ki f.A.s, .int .u8 f.A.z, vi ki f.A.v, .string f.A.t, vi ki f.B.m, vi ki f.B.k, vi ki f.B.d, vi ki f.B.n, vi ki f.B.s, .int .u8 f.B.z, vi ki f.B.v, .string f.B.t] 32)).alloc (.cells #[vi ki 0, vi ki 0, .bool false, .string ⟨#[]⟩] 23)) (w.heap.size) ([.bool f.h, vi ki f.fr, vi ki f.off, vi ki f.A.m, vi ki f.A.k, vi ki f.A.d, vi ki f.A.n, vi ki f.A.s, .int .u8 f.A.z, vi ki f.A.v, .string f.A.t, vi ki f.B.m, vi ki f.B.k, vi ki f.B.d, vi ki f.B.n, vi ki f.B.s, .int .u8 f.B.z, vi ki f.B.v, .string f.B.t])) := ((Bx.newAt w ([.bool f.h, vi ki f.fr, vi ki f.off, vi ki f.A.m, vi ki f.A.k, vi ki f.A.d, vi ki f.A.n, vi ki f.A.s, .int .u8 f.A.z, vi ki f.A.v, .string f.A.t, vi ki f.B.m, vi ki f.B.k, vi ki f.B.d, vi ki f.B.n, vi ki f.B.s, .int .u8 f.B.z, vi ki f.B.v, .string f.B.t]) _ _ (by simp)).alloc _)
 have X1 : Hid (Bx ((w.alloc (.cells #[.bool f.h, vi ki f.fr, vi ki f.off, vi ki f.A.m, vi ki f.A.k, vi ki f.A.d, vi ki f.A.n, vi ki f.A.s, .int .u8 f.A.z, vi ki f.A.v, .string f.A.t, vi ki f.B.m, vi ki f.B.k, vi ki f.B.d, vi ki f.B.n, vi ki f.B.s, .int .u8 f.B.z, vi ki f.B.v, .string f.B.t] 32)).alloc (.cells #[vi ki 0, vi ki 0, .bool false, .string ⟨#[]⟩] 23)) (w.heap.size + 1) (z4)) := (Bx.newAt (w.alloc (.cells #[.bool f.h, vi ki f.fr, vi ki f.off, vi ki f.A.m, vi ki f.A.k, vi ki f.A.d, vi ki f.A.n, vi ki f.A.s, .int .u8 f.A.z, vi ki f.A.v, .string f.A.t, vi ki f.B.m, vi ki f.B.k, vi ki f.B.d, vi ki f.B.n, vi ki f.B.s, .int .u8 f.B.z, vi ki f.B.v, .string f.B.t] 32)) (z4) _ _ (by simp))
 have L1 : Hid (Cvl.Lens ((w.alloc (.cells #[.bool f.h, vi ki f.fr, vi ki f.off, vi ki f.A.m, vi ki f.A.k, vi ki f.A.d, vi ki f.A.n, vi ki f.A.s, .int .u8 f.A.z, vi ki f.A.v, .string f.A.t, vi ki f.B.m, vi ki f.B.k, vi ki f.B.d, vi ki f.B.n, vi ki f.B.s, .int .u8 f.B.z, vi ki f.B.v, .string f.B.t] 32)).alloc (.cells #[vi ki 0, vi ki 0, .bool false, .string ⟨#[]⟩] 23))) := Lens_below hL0.out HB.out (Lens_lt hL0.out)
 have T1 : Hid (Clk.Tab ((w.alloc (.cells #[.bool f.h, vi ki f.fr, vi ki f.off, vi ki f.A.m, vi ki f.A.k, vi ki f.A.d, vi ki f.A.n, vi ki f.A.s, .int .u8 f.A.z, vi ki f.A.v, .string f.A.t, vi ki f.B.m, vi ki f.B.k, vi ki f.B.d, vi ki f.B.n, vi ki f.B.s, .int .u8 f.B.z, vi ki f.B.v, .string f.B.t] 32)).alloc (.cells #[vi ki 0, vi ki 0, .bool false, .string ⟨#[]⟩] 23))) := hT0.out.below HB.out
 have HLE : Hid ((shK f y0 K).t ≤ t) := hle
 have HGT : Hid (∀ k, K < k → k < 10 → t < (shK f y0 k).t) := hgt
 clear hle hgt
 go_enter Tryz.func55, Tryz.ntmps55
 go_wp2_with (first | (refine wpList_load_mid rfl 32 _ rfl w.heap.size 0 rfl [.bool f.h, vi ki f.fr, vi ki f.off, vi ki f.A.m, vi ki f.A.k, vi ki f.A.d, vi ki f.A.n, vi ki f.A.s, .int .u8 f.A.z, vi ki f.A.v, .string f.A.t, vi ki f.B.m, vi ki f.B.k, vi ki f.B.d, vi ki f.B.n, vi ki f.B.s, .int .u8 f.B.z, vi ki f.B.v, .string f.B.t] _ X0.out.all Tryz.underlying32 rfl (by kernel_rfl) ?_) | fail)
 refine (NR.out _ L1.out T1.out).mono ?_
 rintro e w1 ⟨g, cap, rfl, R1, hb⟩
 have B1 : Hid (Below w.heap.size w w1) := HB.out.trans (hb.mono HB.out.size)
 have Y1 : Hid (Bx w1 (w.heap.size + 1) z4) := X1.out.below hb
 have H1 : Hid (Bx w1 g (rowsK f y0 10)) := R1
 clear hb HB X0 X1 L1 T1 NR R1
 go_wp2_with fail
 go_loopw [8] (fun iv wr => ∃ i : Nat, iv = vi ki (i : Int) ∧ K ≤ i ∧ i ≤ 9 ∧ wr = w1) (fun iv _ => (intOf iv).toNat - K)
 case atStart => exact ⟨9, rfl, by omega, by omega, rfl⟩
 case round =>
  obtain ⟨i, rfl, hi1, hi2, rfl⟩ := hrel
  have key : ∀ c, c < 4 → ∀ v, (tL (shK f y0 i))[c]? = some v → wr.cell? ⟨g, i * 4 + c, none⟩ = some v := fun c hc v hv => by
   rw [show i * 4 + c = 4 * i + c by omega]
   exact (H1.out.2 _ _ ((rowsK_at f y0 i c hc 10 (by omega)).trans hv)).1
  have k0 := key 0 (by omega) _ rfl
  have k1 := key 1 (by omega) _ rfl
  have k2 := key 2 (by omega) _ rfl
  have k3 := key 3 (by omega) _ rfl
  simp only [Nat.add_zero] at k0
  clear key
  by_cases e : i = K
  ·subst e
   have hq : (shK f y0 i).t ≤ t := HLE.out
   go_wp2_with (first | (refine wpList_store_mid rfl 23 _ _ rfl (w.heap.size + 1) 0 #[vi ki (shK f y0 i).t, vi ki (shK f y0 i).o, .bool (shK f y0 i).d, .string (shK f y0 i).a] rfl rfl Y1.out.there (by kernel_rfl) (tL_one (shK f y0 i)) ?_; refine gen_list (fun V => Bx V (w.heap.size + 1) (tL (shK f y0 i)) ∧ Below w.heap.size w V) ⟨Y1.out.setAll (tL (shK f y0 i)) rfl, below_setCells (by omega) _ _ _ B1.out⟩ ?_; rintro V ⟨U1, UB⟩) | fail)
   exact bodyPost_ret (v := .tuple #[.agg (tL (shK f y0 i)).toArray, vi ki 0]) (results_cell_t rfl _ _ _ _ _ rfl rfl (run_loadVar_mid _ _ _ _ (tL (shK f y0 i)) _ U1.all Tryz.underlying23 rfl (by kernel_rfl))) rfl ⟨rfl, UB⟩
  ·have hq : ¬ (shK f y0 i).t ≤ t := by have := HGT.out i (by omega) (by omega); omega
   obtain ⟨j, rfl⟩ : ∃ j, i = j + 1 := ⟨i - 1, by omega⟩
   go_wp2
   go_roundw
   case rel => exact ⟨j, by simp, by omega, by omega, by first | rfl | trivial⟩
   case measure => simp [intOf]; omega
theorem rat_no (f : Ft) (t er : Int)
  (NR : Hid (∀ w : World, Calls Tryz.prog 107 #[.agg #[.bool f.h, vi ki f.fr, vi ki f.off, vi ki f.A.m, vi ki f.A.k, vi ki f.A.d, vi ki f.A.n, vi ki f.A.s, .int .u8 f.A.z, vi ki f.A.v, .string f.A.t, vi ki f.B.m, vi ki f.B.k, vi ki f.B.d, vi ki f.B.n, vi ki f.B.s, .int .u8 f.B.z, vi ki f.B.v, .string f.B.t], vi ki t] w fun e w' => e = zr (.tuple #[.slice none 0 0, vi ki er]) ∧ Below w.heap.size w w'))
  (w : World) :
  Calls Tryz.prog 55 #[.agg #[.bool f.h, vi ki f.fr, vi ki f.off, vi ki f.A.m, vi ki f.A.k, vi ki f.A.d, vi ki f.A.n, vi ki f.A.s, .int .u8 f.A.z, vi ki f.A.v, .string f.A.t, vi ki f.B.m, vi ki f.B.k, vi ki f.B.d, vi ki f.B.n, vi ki f.B.s, .int .u8 f.B.z, vi ki f.B.v, .string f.B.t], vi ki t] w fun e w' => e = zr (.tuple #[.agg z4.toArray, vi ki er]) ∧ Below w.heap.size w w' := by
 have HB : Hid (Below w.heap.size w ((w.alloc (.cells #[.bool f.h, vi ki f.fr, vi ki f.off, vi ki f.A.m, vi ki f.A.k, vi ki f.A.d, vi ki f.A.n, vi ki f.A.s, .int .u8 f.A.z, vi ki f.A.v, .string f.A.t, vi ki f.B.m, vi ki f.B.k, vi ki f.B.d, vi ki f.B.n, vi ki f.B.s, .int .u8 f.B.z, vi ki f.B.v, .string f.B.t] 32)).alloc (.cells #[vi ki 0, vi ki 0, .bool false, .string ⟨#[]⟩] 23))) := (((Below.refl _ _).alloc (by simp <;> omega) _).alloc (by simp <;> omega) _)
 have X0 : Hid (Bx ((w.alloc (.cells #[.bool f.h, vi ki f.fr, vi ki f.off, vi ki f.A.m, vi ki f.A.k, vi ki f.A.d, vi ki f.A.n, vi ki f.A.s, .int .u8 f.A.z, vi ki f.A.v, .string f.A.t, vi ki f.B.m, vi ki f.B.k, vi ki f.B.d, vi ki f.B.n, vi ki f.B.s, .int .u8 f.B.z, vi ki f.B.v, .string f.B.t] 32)).alloc (.cells #[vi ki 0, vi ki 0, .bool false, .string ⟨#[]⟩] 23)) (w.heap.size) ([.bool f.h, vi ki f.fr, vi ki f.off, vi ki f.A.m, vi ki f.A.k, vi ki f.A.d, vi ki f.A.n, vi ki f.A.s, .int .u8 f.A.z, vi ki f.A.v, .string f.A.t, vi ki f.B.m, vi ki f.B.k, vi ki f.B.d, vi ki f.B.n, vi ki f.B.s, .int .u8 f.B.z, vi ki f.B.v, .string f.B.t])) := ((Bx.newAt w ([.bool f.h, vi ki f.fr, vi ki f.off, vi ki f.A.m, vi ki f.A.k, vi ki f.A.d, vi ki f.A.n, vi ki f.A.s, .int .u8 f.A.z, vi ki f.A.v, .string f.A.t, vi ki f.B.m, vi ki f.B.k, vi ki f.B.d, vi ki f.B.n, vi ki f.B.s, .int .u8 f.B.z, vi ki f.B.v, .string f.B.t]) _ _ (by simp)).alloc _)
 have X1 : Hid (Bx ((w.alloc (.cells #[.bool f.h, vi ki f.fr, vi ki f.off, vi ki f.A.m, vi ki f.A.k, vi ki f.A.d, vi ki f.A.n, vi ki f.A.s, .int .u8 f.A.z, vi ki f.A.v, .string f.A.t, vi ki f.B.m, vi ki f.B.k, vi ki f.B.d, vi ki f.B.n, vi ki f.B.s, .int .u8 f.B.z, vi ki f.B.v, .string f.B.t] 32)).alloc (.cells #[vi ki 0, vi ki 0, .bool false, .string ⟨#[]⟩] 23)) (w.heap.size + 1) (z4)) := (Bx.newAt (w.alloc (.cells #[.bool f.h, vi ki f.fr, vi ki f.off, vi ki f.A.m, vi ki f.A.k, vi ki f.A.d, vi ki f.A.n, vi ki f.A.s, .int .u8 f.A.z, vi ki f.A.v, .string f.A.t, vi ki f.B.m, vi ki f.B.k, vi ki f.B.d, vi ki f.B.n, vi ki f.B.s, .int .u8 f.B.z, vi ki f.B.v, .string f.B.t] 32)) (z4) _ _ (by simp))
 go_enter Tryz.func55, Tryz.ntmps55
 go_wp2_with (first | (refine wpList_load_mid rfl 32 _ rfl w.heap.size 0 rfl [.bool f.h, vi ki f.fr, vi ki f.off, vi ki f.A.m, vi ki f.A.k, vi ki f.A.d, vi ki f.A.n, vi ki f.A.s, .int .u8 f.A.z, vi ki f.A.v, .string f.A.t, vi ki f.B.m, vi ki f.B.k, vi ki f.B.d, vi ki f.B.n, vi ki f.B.s, .int .u8 f.B.z, vi ki f.B.v, .string f.B.t] _ X0.out.all Tryz.underlying32 rfl (by kernel_rfl) ?_) | fail)
 refine (NR.out _).mono ?_
 rintro e w1 ⟨rfl, hb⟩
 have B1 : Hid (Below w.heap.size w w1) := HB.out.trans (hb.mono HB.out.size)
 have Y1 : Hid (Bx w1 (w.heap.size + 1) z4) := X1.out.below hb
 clear hb HB X0 X1 NR
 go_wp2_with fail
 go_loopw [8] (fun iv wr => iv = vi ki (-1) ∧ wr = w1) (fun _ _ => 0)
 case atStart => exact ⟨rfl, rfl⟩
 case round =>
  obtain ⟨rfl, rfl⟩ := hrel
  go_wp2_with (first | (refine wpList_store_mid rfl 23 _ _ rfl (w.heap.size + 1) 0 z4.toArray rfl rfl Y1.out.there (by kernel_rfl) z4_one ?_; refine gen_list (fun V => Bx V (w.heap.size + 1) z4 ∧ Below w.heap.size w V) ⟨Y1.out.setAll z4 rfl, below_setCells (by omega) _ _ _ B1.out⟩ ?_; rintro V ⟨U1, UB⟩) | fail)
  exact bodyPost_ret (v := .tuple #[.agg z4.toArray, vi ki er]) (results_cell_t rfl _ _ _ _ _ rfl rfl (run_loadVar_mid _ _ _ _ z4 _ U1.all Tryz.underlying23 rfl (by kernel_rfl))) rfl ⟨rfl, UB⟩
end Go.Proofs.YtklehbmghjcmaaaGreatDoor.Fn
namespace Go.Proofs.YtklehbmghjcmaaaGreatDoor
open Go.RowKit Sr
end Go.Proofs.YtklehbmghjcmaaaGreatDoor
namespace Go.Proofs.YtklehbmghjcmaaaGreatDoor
open Go.RowKit
open _root_.Go.Proofs.YtklehbmghjcmaaaGreatDoor.Fn
def z9 : Tr := ⟨0, 0, false, ⟨#[]⟩⟩
def FAt (f : Ft) (t : Int) (p : Tr) (er : Int) : Prop :=
 (er = 0 ∧ okF f = true ∧ ∃ y j, YAt t y ∧ -4714 ≤ y ∧ y ≤ 294278 ∧ St f t j ∧ p = gs f j) ∨ (er ≠ 0 ∧ p = z9 ∧ (okF f = false ∨ ∃ y, YAt t y ∧ (y < -4714 ∨ 294278 < y)))
theorem fat_any (f : Ft) (t : Int) (t1 : -9223372036854775808 ≤ t) (t2 : t ≤ 9223372036854775807) :
  ∃ p er, FAt f t p er ∧ ∀ w : World, Cvl.Lens w → Clk.Tab w → Calls Tryz.prog 125 #[.agg #[.bool f.h, vi ki f.fr, vi ki f.off, vi ki f.A.m, vi ki f.A.k, vi ki f.A.d, vi ki f.A.n, vi ki f.A.s, .int .u8 f.A.z, vi ki f.A.v, .string f.A.t, vi ki f.B.m, vi ki f.B.k, vi ki f.B.d, vi ki f.B.n, vi ki f.B.s, .int .u8 f.B.z, vi ki f.B.v, .string f.B.t], vi ki t] w fun e w' => e = zr (.tuple #[.agg #[vi ki p.t, vi ki p.o, .bool p.d, .string p.a], vi ki er]) ∧ Below w.heap.size w w' := by
 cases hf : okF f with
 | false => exact ⟨z9, 1, .inr ⟨by decide, rfl, .inl hf⟩, fun w hL hT => at_run f t z9 z9 1 (fun w hL hT => around_arg f t hf w hL hT) w hL hT⟩
 | true =>
  obtain ⟨y, hy⟩ := yat_is t
  by_cases hr : y < -4714 ∨ 294278 < y
  ·exact ⟨z9, 10, .inr ⟨by decide, rfl, .inr ⟨y, hy, hr⟩⟩, fun w hL hT => at_run f t z9 z9 10 (fun w hL hT => around_range f t y hf hy t1 t2 (by omega) w hL hT) w hL hT⟩
  ·have y1 : -4714 ≤ y := by omega
   have y2 : y ≤ 294278 := by omega
   obtain ⟨K, k1, k2, hK, hlo, hS⟩ := findK (lh_of hf) hy y1 y2
   refine ⟨_, 0, .inl ⟨rfl, hf, y, _, hy, y1, y2, hS, rfl⟩, fun w hL hT => at_run f t _ (gs f (2 * (y - 1) + K - 1 + 1)) 0 (fun w hL hT => ?_) w hL hT⟩
   have R := around_ok f t y K hf hy y1 y2 t1 t2 k1 k2 hK hlo w hL hT
   have e1 : shK f (y - 1) (K - 1) = gs f (2 * (y - 1) + K - 1) := by rw [shK_gs]; congr 1; omega
   have e2 : shK f (y - 1) K = gs f (2 * (y - 1) + K - 1 + 1) := by rw [shK_gs]; congr 1; omega
   rw [e1, e2] at R
   exact R
end Go.Proofs.YtklehbmghjcmaaaGreatDoor
