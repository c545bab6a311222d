import Derived.Test.YtklehbmghjcmaaaGreatDoorSz
import Derived.Test.YtklehbmghjcmaaaGreatDoorS19
import Derived.SizedLaws
import Derived.Test.YtklehbmghjcmaaaGreatDoorS18
import Derived.Deep.QuietTactic
import Derived.BigQuiet
open Go.Value renaming int → vi
open Go.IntKind renaming i64 → ki
open List renaming setIfInBounds_toArray → zb, set_cons_zero → zc, set_cons_succ → zd
open Go.Act renaming put → za
open Go.Ending renaming returned → zr
set_option maxRecDepth 100000
set_option maxHeartbeats 16000000
set_option linter.unusedVariables false
namespace Go.Proofs.YtklehbmghjcmaaaGreatDoor
open Go.RowKit
set_option maxRecDepth 100000
theorem cell5 : (Tryz.prog.cellTypes Tryz.prog.depth 34).map (fun ts => ts[5 % ts.length]?) = some (some 24) := by kernel_rfl
theorem table_place {w : World} {r : Reach} {b0 : Nat} {t : TbR} {sv : Value} (hv : Value.okWide Tryz.prog w r b0 34 (.agg (tbL t sv).toArray)) : ∀ a n c, sv = .slice (some a) n c → a.block < w.heap.size ∧ a.spot = none := by
 intro a n c hs
 subst hs
 simp only [Value.okWide, Tryz.underlying34] at hv
 obtain ⟨cs, h1, _, ts, hts, _, hc⟩ := hv
 cases h1
 obtain ⟨u, hu, hcell⟩ := hc 5 (.slice (some a) n c) rfl
 have h5 := cell5
 rw [hts] at h5
 simp only [Option.map_some, Option.some.injEq] at h5
 rw [h5] at hu
 cases hu
 simp only [Cell.okWide, Cell.ok, Tryz.underlying24] at hcell
 obtain ⟨_, _, _, h2, row, cells, h3, _⟩ := hcell
 refine ⟨?_, h2⟩
 rcases Nat.lt_or_ge a.block w.heap.size with h | h
 ·exact h
 ·unfold World.shape? at h3
  rw [Array.getElem?_eq_none h] at h3
  cases h3
theorem table_sized {H : Type} {ts : List TypeId} {ds : List (DataW H)} (h : (DataW.weightsEach Tryz.prog ts ds).all (· ≤ reachBytes) = true) {j : Nat} (ht : ts[j]? = some 34) {d : DataW H} (hd : ds[j]? = some d) {e0 e1 e2 e3 : DataW H} (hde : d = .agg [e0, e1, e2, e3]) {L : List TrR} (he : e2 = .nil ∧ L = [] ∨ ∃ es sp, e2 = .slice es sp ∧ es.length = L.length) : L.length * 40 ≤ 140737488355328 := by
 rcases he with ⟨_, rfl⟩ | ⟨es, sp, rfl, hl⟩
 ·simp
 ·subst hde
  have hm := List.all_eq_true.1 h _ (DataW.weights_mem_each ht hd ((es.length + sp.length) * Tryz.prog.bytesOf 23) (by
   simp only [DataW.weights, Tryz.underlying34]
   refine DataW.weights_mem_each (j := 2) (t := 24) (d := .slice es sp) rfl rfl _ ?_
   simp [DataW.weights, Tryz.underlying24]))
  rw [bytes30] at hm
  have := of_decide_eq_true hm
  unfold reachBytes at this
  rw [Nat.add_mul] at this
  omega
end Go.Proofs.YtklehbmghjcmaaaGreatDoor
namespace Go.Proofs.YtklehbmghjcmaaaGreatDoor.Fn
open Go.RowKit
theorem cum_lin (y m : Int) (h1 : 1 ≤ m) (h2 : m ≤ 12) : 152 * (m - 1) - 10 ≤ 5 * Cv.cum y m ∧ 5 * Cv.cum y m ≤ 152 * (m - 1) + 10 := by
 have l := Cv.lp_01 y
 rcases Cv.twelve h1 h2 with rfl | rfl | rfl | rfl | rfl | rfl | rfl | rfl | rfl | rfl | rfl | rfl <;> simp [Cv.cum] <;> omega
theorem day_bd {y m k d n : Int} (h : dyA m k d n) (hy : dyY y) : fst1 y m - 6 ≤ dyV y m k d n ∧ dyV y m k d n ≤ fst1 y m + 36 := by
 have l := Cv.len_01 y m h.2.1 h.2.2
 unfold dyV
 rw [if_pos h, if_pos hy]
 unfold dayN
 have b1 := bk_bd (fst1 y m + Cv.len y m - 1) d
 have b2 := bk_bd (fst1 y m + n - 1) d
 have b3 := bk_bd (fst1 y m + n - 1 + 7 - 1) d
 rcases h.1 with a | a | a
 ·rw [if_pos a.1]; omega
 ·rw [if_neg (by omega), if_pos a.1]; omega
 ·rw [if_neg (by omega), if_neg (by omega)]; split <;> omega
theorem inst_bd {d s k o v : Int} (s1 : 0 ≤ s) (s2 : s ≤ 86400) (o1 : -50400 ≤ o) (o2 : o ≤ 50400) (v1 : 0 ≤ v) (v2 : v ≤ 7200) :
  (d + 10957) * 86400 - 57600 ≤ inst d s k o v ∧ inst d s k o v ≤ (d + 10957) * 86400 + 136800 := by
 unfold inst
 split
 ·omega
 ·split <;> omega
theorem tr_bd {off : Int} {h g : Hf} {y : Int} (hh : okH h = true) (hg : okH g = true) (o1 : -50400 ≤ off) (o2 : off ≤ 50400) (hy : dyY y) :
  (Cv.S y + Cv.cum y h.m - 6 + 10957) * 86400 - 57600 ≤ (trOf off h g y).t ∧ (trOf off h g y).t ≤ (Cv.S y + Cv.cum y h.m + 36 + 10957) * 86400 + 136800 := by
 obtain ⟨a1, a2, a3, a4⟩ := okH_of hh
 obtain ⟨b1, b2, b3, b4⟩ := okH_of hg
 obtain ⟨s1, s2, _⟩ := a2
 have d := day_bd (y := y) a1 hy
 have i := inst_bd (d := dyV y h.m h.k h.d h.n) (k := h.z) s1 s2 o1 o2 b3 b4
 unfold fst1 at d
 show _ ≤ inst (dyV y h.m h.k h.d h.n) h.s h.z off g.v ∧ inst (dyV y h.m h.k h.d h.n) h.s h.z off g.v ≤ _
 omega
theorem far_of {m n : Int} (h : far m n = true) : (m + 2 ≤ n ∧ n ≤ m + 10) ∨ (n + 2 ≤ m ∧ m ≤ n + 10) := by
 have := of_decide_eq_true h
 split at this <;> omega
def lo (f : Ft) : Hf := if f.A.m < f.B.m then f.A else f.B
def hi (f : Ft) : Hf := if f.A.m < f.B.m then f.B else f.A
structure LH (f : Ft) : Prop where
 l : okH (lo f) = true
 h : okH (hi f) = true
 o1 : -50400 ≤ f.off
 o2 : f.off ≤ 50400
 a : (lo f).m + 2 ≤ (hi f).m
 b : (hi f).m ≤ (lo f).m + 10
 m1 : 1 ≤ (lo f).m
 m2 : (hi f).m ≤ 12
theorem lh_of {f : Ft} (hf : okF f = true) : LH f := by
 obtain ⟨o1, o2, hA, hB, hr, _⟩ := okF_of hf
 have a := (okH_of hA).1.2
 have b := (okH_of hB).1.2
 have r := far_of hr
 by_cases h : f.A.m < f.B.m
 ·have e1 : lo f = f.A := if_pos h
  have e2 : hi f = f.B := if_pos h
  exact ⟨by rw [e1]; exact hA, by rw [e2]; exact hB, o1, o2, by rw [e1, e2]; omega, by rw [e1, e2]; omega, by rw [e1]; omega, by rw [e2]; omega⟩
 ·have e1 : lo f = f.B := if_neg h
  have e2 : hi f = f.A := if_neg h
  exact ⟨by rw [e1]; exact hB, by rw [e2]; exact hA, o1, o2, by rw [e1, e2]; omega, by rw [e1, e2]; omega, by rw [e1]; omega, by rw [e2]; omega⟩
theorem lo_hi {f : Ft} (L : LH f) {y : Int} (hy : dyY y) : (trOf f.off (lo f) (hi f) y).t < (trOf f.off (hi f) (lo f) y).t ∧ (trOf f.off (hi f) (lo f) y).t < (trOf f.off (lo f) (hi f) y).t + 400 * 86400 := by
 have b1 := tr_bd (y := y) L.l L.h L.o1 L.o2 hy
 have b2 := tr_bd (y := y) L.h L.l L.o1 L.o2 hy
 have c1 := cum_lin y (lo f).m L.m1 (by have := L.a; have := L.m2; omega)
 have c2 := cum_lin y (hi f).m (by have := L.a; have := L.m1; omega) L.m2
 have := L.a
 have := L.b
 omega
theorem hi_lo {f : Ft} (L : LH f) {y : Int} (hy : dyY y) (hy' : dyY (y + 1)) : (trOf f.off (hi f) (lo f) y).t < (trOf f.off (lo f) (hi f) (y + 1)).t ∧ (trOf f.off (lo f) (hi f) (y + 1)).t < (trOf f.off (hi f) (lo f) y).t + 400 * 86400 := by
 have b1 := tr_bd (y := y + 1) L.l L.h L.o1 L.o2 hy'
 have b2 := tr_bd (y := y) L.h L.l L.o1 L.o2 hy
 have c1 := cum_lin (y + 1) (lo f).m L.m1 (by have := L.a; have := L.m2; omega)
 have c2 := cum_lin y (hi f).m (by have := L.a; have := L.m1; omega) L.m2
 have s := Cv.S_succ y
 have l := Cv.lp_01 y
 have := L.a
 have := L.b
 omega
theorem sh_is {f : Ft} (L : LH f) {y : Int} (hy : dyY y) : sh1 f y = trOf f.off (lo f) (hi f) y ∧ sh2 f y = trOf f.off (hi f) (lo f) y := by
 have h := (lo_hi L hy).1
 by_cases q : f.A.m < f.B.m
 ·have e1 : lo f = f.A := if_pos q
  have e2 : hi f = f.B := if_pos q
  rw [e1, e2] at h ⊢
  unfold sh1 sh2
  rw [if_neg (by omega), if_neg (by omega)]
  exact ⟨rfl, rfl⟩
 ·have e1 : lo f = f.B := if_neg q
  have e2 : hi f = f.A := if_neg q
  rw [e1, e2] at h ⊢
  unfold sh1 sh2
  rw [if_pos h, if_pos h]
  exact ⟨rfl, rfl⟩
def gs (f : Ft) (j : Int) : Tr := if j % 2 = 0 then sh1 f (j / 2) else sh2 f (j / 2)
theorem gs_0 (f : Ft) (y : Int) : gs f (2 * y) = sh1 f y := by unfold gs; rw [if_pos (by omega), show 2 * y / 2 = y by omega]
theorem gs_1 (f : Ft) (y : Int) : gs f (2 * y + 1) = sh2 f y := by unfold gs; rw [if_neg (by omega), show (2 * y + 1) / 2 = y by omega]
theorem shK_gs (f : Ft) (y0 : Int) (k : Nat) : shK f y0 k = gs f (2 * y0 + k) := by
 unfold shK gs
 by_cases h : k % 2 = 0
 ·rw [if_pos h, if_pos (by omega), show (2 * y0 + (k : Int)) / 2 = y0 + ((k / 2 : Nat) : Int) by omega]
 ·rw [if_neg h, if_neg (by omega), show (2 * y0 + (k : Int)) / 2 = y0 + ((k / 2 : Nat) : Int) by omega]
def inG (j : Int) : Prop := -9434 ≤ j ∧ j ≤ 588562
theorem gs_step {f : Ft} (L : LH f) {j : Int} (h : inG j) : (gs f j).t < (gs f (j + 1)).t ∧ (gs f (j + 1)).t < (gs f j).t + 400 * 86400 := by
 unfold inG at h
 obtain ⟨y, hy | hy⟩ : ∃ y, j = 2 * y ∨ j = 2 * y + 1 := ⟨j / 2, by omega⟩
 ·subst hy
  rw [gs_0, gs_1]
  have q : dyY y := by unfold dyY; omega
  rw [(sh_is L q).1, (sh_is L q).2]
  exact lo_hi L q
 ·subst hy
  rw [show 2 * y + 1 + 1 = 2 * (y + 1) by omega, gs_0, gs_1]
  have q : dyY y := by unfold dyY; omega
  have q' : dyY (y + 1) := by unfold dyY; omega
  rw [(sh_is L q).2, (sh_is L q').1]
  exact hi_lo L q q'
theorem gs_mono {f : Ft} (L : LH f) (i : Int) (h : -9434 ≤ i) : ∀ n : Nat, i + n ≤ 588562 → (gs f i).t < (gs f (i + n + 1)).t
 | 0, hn => by have := (gs_step L (j := i) ⟨h, by omega⟩).1; simpa using this
 | n + 1, hn => by
  have a := gs_mono L i h n (by omega)
  have b := (gs_step L (j := i + n + 1) ⟨by omega, by omega⟩).1
  rw [show i + ((n + 1 : Nat) : Int) + 1 = i + n + 1 + 1 by omega]
  omega
theorem gs_lt {f : Ft} (L : LH f) {i j : Int} (hi : -9434 ≤ i) (hij : i < j) (hj : j ≤ 588563) : (gs f i).t < (gs f j).t := by
 have := gs_mono L i hi (j - i - 1).toNat (by omega)
 rwa [show i + ((j - i - 1).toNat : Int) + 1 = j by omega] at this
def St (f : Ft) (t j : Int) : Prop := -9434 ≤ j ∧ j ≤ 588562 ∧ (gs f j).t ≤ t ∧ t < (gs f (j + 1)).t
theorem St.one {f : Ft} (L : LH f) {t i j : Int} (a : St f t i) (b : St f t j) : i = j := by
 obtain ⟨a1, a2, a3, a4⟩ := a
 obtain ⟨b1, b2, b3, b4⟩ := b
 rcases Int.lt_trichotomy i j with h | h | h
 ·exfalso
  have : (gs f (i + 1)).t ≤ (gs f j).t := by
   by_cases e : i + 1 = j
   ·rw [e]; exact Int.le_refl _
   ·have := gs_lt L (i := i + 1) (j := j) (by omega) (by omega) (by omega); omega
  omega
 ·exact h
 ·exfalso
  have : (gs f (j + 1)).t ≤ (gs f i).t := by
   by_cases e : j + 1 = i
   ·rw [e]; exact Int.le_refl _
   ·have := gs_lt L (i := j + 1) (j := i) (by omega) (by omega) (by omega); omega
  omega
theorem ends {f : Ft} (L : LH f) {t y : Int} (hy : YAt t y) (y1 : -4714 ≤ y) (y2 : y ≤ 294278) : (gs f (2 * (y - 1))).t ≤ t ∧ t < (gs f (2 * (y - 1) + 5)).t := by
 obtain ⟨hc, a, b⟩ : Cvl.can (t / 86400 - 10957) = true ∧ Cv.S y ≤ t / 86400 - 10957 ∧ t / 86400 - 10957 < Cv.S (y + 1) := by
  rcases hy with h | ⟨_, _, h⟩ | ⟨_, _, h⟩
  ·exact h
  ·omega
  ·omega
 have q0 : dyY (y - 1) := by unfold dyY; omega
 have q1 : dyY (y + 1) := by unfold dyY; omega
 have s := Cv.S_succ (y - 1)
 rw [show y - 1 + 1 = y by omega] at s
 have l := Cv.lp_01 (y - 1)
 have := L.a
 have := L.b
 have := L.m1
 have := L.m2
 constructor
 ·rw [gs_0, (sh_is L q0).1]
  have b1 := tr_bd (y := y - 1) L.l L.h L.o1 L.o2 q0
  have c1 := cum_lin (y - 1) (lo f).m L.m1 (by omega)
  omega
 ·rw [show 2 * (y - 1) + 5 = 2 * (y + 1) + 1 by omega, gs_1, (sh_is L q1).2]
  have b2 := tr_bd (y := y + 1) L.h L.l L.o1 L.o2 q1
  have c2 := cum_lin (y + 1) (hi f).m (by omega) L.m2
  omega
theorem findK {f : Ft} (L : LH f) {t y : Int} (hy : YAt t y) (y1 : -4714 ≤ y) (y2 : y ≤ 294278) :
  ∃ K : Nat, 1 ≤ K ∧ K < 6 ∧ t < (shK f (y - 1) K).t ∧ (∀ k, k < K → (shK f (y - 1) k).t ≤ t) ∧ St f t (2 * (y - 1) + K - 1) := by
 obtain ⟨e0, e5⟩ := ends L hy y1 y2
 have key : ∀ n : Nat, n ≤ 5 → (∃ K : Nat, 1 ≤ K ∧ K ≤ n ∧ t < (shK f (y - 1) K).t ∧ (∀ k, k < K → (shK f (y - 1) k).t ≤ t)) ∨ (∀ k, k ≤ n → (shK f (y - 1) k).t ≤ t) := by
  intro n
  induction n with
  | zero => exact fun _ => .inr (fun k hk => by obtain rfl : k = 0 := (by omega); rw [shK_gs]; simpa using e0)
  | succ n ih =>
   intro hn
   rcases ih (by omega) with ⟨K, a, b, c, d⟩ | h
   ·exact .inl ⟨K, a, by omega, c, d⟩
   ·by_cases q : t < (shK f (y - 1) (n + 1)).t
    ·exact .inl ⟨n + 1, by omega, Nat.le_refl _, q, fun k hk => h k (by omega)⟩
    ·exact .inr (fun k hk => by
      by_cases e : k = n + 1
      ·rw [e]; omega
      ·exact h k (by omega))
 rcases key 5 (Nat.le_refl _) with ⟨K, a, b, c, d⟩ | h
 ·refine ⟨K, a, by omega, c, d, by omega, by omega, ?_, ?_⟩
  ·have := d (K - 1) (by omega)
   rw [shK_gs, show 2 * (y - 1) + ((K - 1 : Nat) : Int) = 2 * (y - 1) + K - 1 by omega] at this
   exact this
  ·rw [shK_gs] at c
   rw [show 2 * (y - 1) + (K : Int) - 1 + 1 = 2 * (y - 1) + K by omega]
   exact c
 ·have := h 5 (Nat.le_refl _)
  rw [shK_gs] at this
  have e : 2 * (y - 1) + ((5 : Nat) : Int) = 2 * (y - 1) + 5 := rfl
  rw [e] at this
  omega
theorem bx_of_own {W : World} {b : Nat} {e : TypeId} {sz n : Nat} {v : Value} {xs : List Value} (h : W.ownsRow b e sz v n xs) (hn : 0 < n) : ∃ g cap, v = .slice (some ⟨g, 0, none⟩) n cap ∧ b ≤ g ∧ Bx W g xs ∧ n ≤ cap := by
 rcases h.2 with ⟨_, h0⟩ | ⟨g, cap, cur, rfl, hb, hg, hc, _, _, ht⟩
 ·omega
 ·refine ⟨g, cap, rfl, hb, ⟨(Array.getElem?_eq_some_iff.1 hg).1, fun i u hu => ⟨?_, by simp [World.frozen?, hg]⟩⟩, hc⟩
  simp only [World.cell?, hg]
  rw [← ht] at hu
  have hi : i < n * sz := by
   have := (List.getElem?_eq_some_iff.1 hu).1
   simp at this
   omega
  rw [List.getElem?_take_of_lt hi] at hu
  simpa using hu
theorem rhalf_run (a : Hf) (bO bA : Bool)
  (RO : Hid (∀ w : World, Calls Tryz.prog 211 #[.agg #[vi ki a.k, vi ki a.d, vi ki a.n]] w fun e w' => e = zr (.bool bO) ∧ Below w.heap.size w w'))
  (RA : Hid (∀ w : World, Calls Tryz.prog 212 #[.agg #[vi ki a.s, .int .u8 a.z]] w fun e w' => e = zr (.bool bA) ∧ Below w.heap.size w w'))
  (w : World) :
  Calls Tryz.prog 190 #[.agg #[vi ki a.m, vi ki a.k, vi ki a.d, vi ki a.n, vi ki a.s, .int .u8 a.z, vi ki a.v, .string a.t]] w fun e w' => e = zr (.bool (decide (1 ≤ a.m) && decide (a.m ≤ 12) && bO && bA && decide (0 ≤ a.v) && decide (a.v ≤ 7200))) ∧ Below w.heap.size w w' := by
 have HB : Hid (Below w.heap.size w (w.alloc (.cells #[vi ki a.m, vi ki a.k, vi ki a.d, vi ki a.n, vi ki a.s, .int .u8 a.z, vi ki a.v, .string a.t] 30))) := ((Below.refl _ _).alloc (by simp <;> omega) _)
 have X0 : Hid (Bx (w.alloc (.cells #[vi ki a.m, vi ki a.k, vi ki a.d, vi ki a.n, vi ki a.s, .int .u8 a.z, vi ki a.v, .string a.t] 30)) (w.heap.size) (hL a)) := (Bx.newAt w (hL a) _ _ (by simp))
 by_cases m1 : 1 ≤ a.m
 case neg =>
  rw [decide_eq_false m1]
  go_enter Tryz.func190, Tryz.ntmps190
  go_wp2
  go_ret
  exact ⟨rfl, HB.out⟩
 by_cases m2 : a.m ≤ 12
 case neg =>
  rw [decide_eq_true m1, decide_eq_false m2]
  go_enter Tryz.func190, Tryz.ntmps190
  go_wp2
  go_ret
  exact ⟨rfl, HB.out⟩
 rw [decide_eq_true m1, decide_eq_true m2]
 go_enter Tryz.func190, Tryz.ntmps190
 go_wp2_with fail
 refine (RO.out _).mono ?_
 rintro e w1 ⟨rfl, hb⟩
 have B1 : Hid (Below w.heap.size w w1) := HB.out.trans (hb.mono HB.out.size)
 have X1 : Hid (Bx w1 w.heap.size (hL a)) := X0.out.below hb
 clear hb HB X0 RO
 cases bO
 ·go_wp2
  go_ret
  exact ⟨rfl, B1.out⟩
 have c4 := X1.out.c 4 rfl
 have c5 := X1.out.c 5 rfl
 go_wp2_with fail
 refine (RA.out _).mono ?_
 rintro e w2 ⟨rfl, hb⟩
 have B2 : Hid (Below w.heap.size w w2) := B1.out.trans (hb.mono B1.out.size)
 have c6 := (X1.out.below hb).c 6 rfl
 clear hb B1 X1 RA c4 c5
 cases bA
 ·go_wp2
  go_ret
  exact ⟨rfl, B2.out⟩
 go_wp2
 all_goals go_ret
 all_goals refine ⟨Cvl.ret_bool ?_, B2.out⟩
 all_goals first | (simp; done) | (simp; omega)
theorem rhalf_any (a : Hf) (w : World) :
  Calls Tryz.prog 190 #[.agg #[vi ki a.m, vi ki a.k, vi ki a.d, vi ki a.n, vi ki a.s, .int .u8 a.z, vi ki a.v, .string a.t]] w fun e w' => e = zr (.bool (okH a)) ∧ Below w.heap.size w w' := by
 have key : ∀ bO bA : Bool, (bO = true ↔ okOn a.k a.d a.n) → (bA = true ↔ okAt a.s a.z) → okH a = (decide (1 ≤ a.m) && decide (a.m ≤ 12) && bO && bA && decide (0 ≤ a.v) && decide (a.v ≤ 7200)) := fun bO bA h1 h2 => by
  unfold okH dyA
  rw [Bool.eq_iff_iff]
  simp only [Bool.and_eq_true, decide_eq_true_eq, h1, h2]
  constructor
  ·rintro ⟨⟨q1, q2, q3⟩, q4, q5, q6⟩; exact ⟨⟨⟨⟨⟨q2, q3⟩, q1⟩, q4⟩, q5⟩, q6⟩
  ·rintro ⟨⟨⟨⟨⟨q2, q3⟩, q1⟩, q4⟩, q5⟩, q6⟩; exact ⟨⟨q1, q2, q3⟩, q4, q5, q6⟩
 by_cases h1 : okOn a.k a.d a.n <;> by_cases h2 : okAt a.s a.z
 ·rw [key true true (by simp [h1]) (by simp [h2])]; exact rhalf_run a true true (rightOn_yes a.k a.d a.n h1) (rightAt_yes a.s a.z h2) w
 ·rw [key true false (by simp [h1]) (by simp [h2])]; exact rhalf_run a true false (rightOn_yes a.k a.d a.n h1) (rightAt_no a.s a.z h2) w
 ·rw [key false true (by simp [h1]) (by simp [h2])]; exact rhalf_run a false true (rightOn_no a.k a.d a.n h1) (rightAt_yes a.s a.z h2) w
 ·rw [key false false (by simp [h1]) (by simp [h2])]; exact rhalf_run a false false (rightOn_no a.k a.d a.n h1) (rightAt_no a.s a.z h2) w
theorem rcan_run (f : Ft) (bA bB : Bool) (mb : bA = true → bB = true → 1 ≤ f.A.m ∧ f.A.m ≤ 12 ∧ 1 ≤ f.B.m ∧ f.B.m ≤ 12)
  (IA : Hid (∀ w : World, Calls Tryz.prog 190 #[.agg #[vi ki f.A.m, vi ki f.A.k, vi ki f.A.d, vi ki f.A.n, vi ki f.A.s, .int .u8 f.A.z, vi ki f.A.v, .string f.A.t]] w fun e w' => e = zr (.bool bA) ∧ Below w.heap.size w w'))
  (IB : Hid (∀ w : World, Calls Tryz.prog 190 #[.agg #[vi ki f.B.m, vi ki f.B.k, vi ki f.B.d, vi ki f.B.n, vi ki f.B.s, .int .u8 f.B.z, vi ki f.B.v, .string f.B.t]] w fun e w' => e = zr (.bool bB) ∧ Below w.heap.size w w'))
  (w : World) :
  Calls Tryz.prog 151 #[.agg #[.bool f.h, vi ki f.fr, vi ki f.off, vi ki f.A.m, vi ki f.A.k, vi ki f.A.d, vi ki f.A.n, vi ki f.A.s, .int .u8 f.A.z, vi ki f.A.v, .string f.A.t, vi ki f.B.m, vi ki f.B.k, vi ki f.B.d, vi ki f.B.n, vi ki f.B.s, .int .u8 f.B.z, vi ki f.B.v, .string f.B.t]] w fun e w' => e = zr (.bool (f.h && decide (-50400 ≤ f.off) && decide (f.off ≤ 50400) && bA && bB && far f.A.m f.B.m)) ∧ Below w.heap.size w w' := by
 have HB : Hid (Below w.heap.size w (w.alloc (.cells #[.bool f.h, vi ki f.fr, vi ki f.off, vi ki f.A.m, vi ki f.A.k, vi ki f.A.d, vi ki f.A.n, vi ki f.A.s, .int .u8 f.A.z, vi ki f.A.v, .string f.A.t, vi ki f.B.m, vi ki f.B.k, vi ki f.B.d, vi ki f.B.n, vi ki f.B.s, .int .u8 f.B.z, vi ki f.B.v, .string f.B.t] 32))) := ((Below.refl _ _).alloc (by simp <;> omega) _)
 have X0 : Hid (Bx (w.alloc (.cells #[.bool f.h, vi ki f.fr, vi ki f.off, vi ki f.A.m, vi ki f.A.k, vi ki f.A.d, vi ki f.A.n, vi ki f.A.s, .int .u8 f.A.z, vi ki f.A.v, .string f.A.t, vi ki f.B.m, vi ki f.B.k, vi ki f.B.d, vi ki f.B.n, vi ki f.B.s, .int .u8 f.B.z, vi ki f.B.v, .string f.B.t] 32)) (w.heap.size) (fL f)) := (Bx.newAt w (fL f) _ _ (by simp))
 have MB : Hid (bA = true → bB = true → 1 ≤ f.A.m ∧ f.A.m ≤ 12 ∧ 1 ≤ f.B.m ∧ f.B.m ≤ 12) := mb
 clear mb
 cases hh : f.h
 ·rw [hh] at HB X0
  go_enter Tryz.func151, Tryz.ntmps151
  go_wp2
  go_ret
  exact ⟨rfl, HB.out⟩
 rw [hh] at HB X0
 go_enter Tryz.func151, Tryz.ntmps151
 go_wp2_with fail
 refine (IA.out _).mono ?_
 rintro e w1 ⟨rfl, hb⟩
 have B1 : Hid (Below w.heap.size w w1) := HB.out.trans (hb.mono HB.out.size)
 have X1 : Hid (Bx w1 w.heap.size (fL f)) := X0.out.below hb
 clear hb HB X0 IA
 cases bA
 ·go_wp2
  go_ret
  exact ⟨by simp, B1.out⟩
 have c11 := X1.out.c 11 rfl
 have c12 := X1.out.c 12 rfl
 have c13 := X1.out.c 13 rfl
 have c14 := X1.out.c 14 rfl
 have c15 := X1.out.c 15 rfl
 have c16 := X1.out.c 16 rfl
 have c17 := X1.out.c 17 rfl
 have c18 := X1.out.c 18 rfl
 go_wp2_with fail
 refine (IB.out _).mono ?_
 rintro e w2 ⟨rfl, hb⟩
 have B2 : Hid (Below w.heap.size w w2) := B1.out.trans (hb.mono B1.out.size)
 have d2 := (X1.out.below hb).c 2 rfl
 have d3 := (X1.out.below hb).c 3 rfl
 have d11 := (X1.out.below hb).c 11 rfl
 clear hb B1 X1 IB c11 c12 c13 c14 c15 c16 c17 c18
 cases bB
 ·go_wp2
  go_ret
  exact ⟨by simp, B2.out⟩
 obtain ⟨m1, m2, m3, m4⟩ : 1 ≤ f.A.m ∧ f.A.m ≤ 12 ∧ 1 ≤ f.B.m ∧ f.B.m ≤ 12 := by first | exact MB.out rfl rfl | exact MB.out trivial trivial | exact MB.out trivial rfl | exact MB.out trivial | exact MB.out
 clear MB
 by_cases o1 : -50400 ≤ f.off
 ·by_cases o2 : f.off ≤ 50400
  ·have O1 : Hid (-50400 ≤ f.off) := o1
   have O2 : Hid (f.off ≤ 50400) := o2
   go_wp2
   all_goals go_ret
   all_goals refine ⟨Cvl.ret_bool ?_, B2.out⟩
   all_goals unfold far
   all_goals first | exact (decide_eq_false (by split <;> omega)).symm | exact (decide_eq_true (by split <;> omega)).symm | (rw [decide_eq_true O1.out, decide_eq_true O2.out]; simp only [Bool.true_and, Bool.and_true]; refine decide_eq_decide.2 ?_; split <;> omega)
  ·have O2 : Hid (¬ f.off ≤ 50400) := o2
   go_wp2
   go_ret
   exact ⟨Cvl.ret_bool (by have := O2.out; first | rfl | (simp; done) | (simp; omega)), B2.out⟩
 ·have O1 : Hid (¬ -50400 ≤ f.off) := o1
  go_wp2
  go_ret
  exact ⟨Cvl.ret_bool (by have := O1.out; first | rfl | (simp; done) | (simp; omega)), B2.out⟩
theorem rcan_any (f : Ft) (w : World) :
  Calls Tryz.prog 151 #[.agg #[.bool f.h, vi ki f.fr, vi ki f.off, vi ki f.A.m, vi ki f.A.k, vi ki f.A.d, vi ki f.A.n, vi ki f.A.s, .int .u8 f.A.z, vi ki f.A.v, .string f.A.t, vi ki f.B.m, vi ki f.B.k, vi ki f.B.d, vi ki f.B.n, vi ki f.B.s, .int .u8 f.B.z, vi ki f.B.v, .string f.B.t]] w fun e w' => e = zr (.bool (okF f)) ∧ Below w.heap.size w w' :=
 rcan_run f (okH f.A) (okH f.B) (fun ha hb => by
  have A := (okH_of ha).1
  have B := (okH_of hb).1
  exact ⟨A.2.1, A.2.2, B.2.1, B.2.2⟩) (fun w => rhalf_any f.A w) (fun w => rhalf_any f.B w) w
end Go.Proofs.YtklehbmghjcmaaaGreatDoor.Fn
