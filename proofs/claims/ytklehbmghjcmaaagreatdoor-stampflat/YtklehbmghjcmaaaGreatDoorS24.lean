import Derived.Test.YtklehbmghjcmaaaGreatDoorSz
import Derived.Test.YtklehbmghjcmaaaGreatDoorS21
import Derived.Test.YtklehbmghjcmaaaGreatDoorS10
import Derived.Test.YtklehbmghjcmaaaGreatDoorS23
import Derived.Test.YtklehbmghjcmaaaGreatDoorS0
import Derived.RegionTactic
import Derived.ChangeAlike
import Derived.Deep.RegionWith
import Derived.Deep.DeepMust
import Derived.Deep.RegionHeld3
import Derived.Deep.QuietTactic
import Derived.BigQuiet
open Go.Value renaming int → vi
open Go.IntKind renaming i64 → ki
open List renaming setIfInBounds_toArray → zb, set_cons_zero → zc, set_cons_succ → zd
open Go.Act renaming put → za
open Go.Ending renaming returned → zr
set_option maxRecDepth 100000
set_option maxHeartbeats 16000000
set_option linter.unusedVariables false
namespace Go.Proofs.YtklehbmghjcmaaaGreatDoor
open Go.RowKit Sr
def trT (p : Fn.Tr) : TrR := ⟨p.t, p.o, p.d, p.a⟩
def ftL (f : Fn.Ft) (js : Int) (n : Nat) : List TrR := (List.range n).map fun i : Nat => trT (Fn.gs f (js + 1 + (i : Int)))
theorem ftL_len (f : Fn.Ft) (js : Int) (n : Nat) : (ftL f js n).length = n := by simp [ftL]
theorem ftL_get {f : Fn.Ft} {js : Int} {n k : Nat} (h : k < n) : (ftL f js n)[k]? = some (trT (Fn.gs f (js + 1 + (k : Int)))) := by simp [ftL, h]
theorem stK_ft {f : Fn.Ft} {st js : Int} {n k : Nat} (h : k < n) : stK st (ftL f js n) (k + 1) = (Fn.gs f (js + 1 + (k : Int))).t := stK_succ (ftL_get h)
theorem gs_off {f : Fn.Ft} (hf : Fn.okF f = true) (j : Int) : -57600 ≤ (Fn.gs f j).o ∧ (Fn.gs f j).o ≤ 57600 := by
 obtain ⟨o1, o2, hA, hB, _⟩ := Fn.okF_of hf
 have a := of_decide_eq_true hA
 have b := of_decide_eq_true hB
 have ka : ∀ y, -57600 ≤ (Fn.trOf f.off f.A f.B y).o ∧ (Fn.trOf f.off f.A f.B y).o ≤ 57600 := fun y => by
  show -57600 ≤ f.off + f.A.v ∧ f.off + f.A.v ≤ 57600
  have := a.2.2; omega
 have kb : ∀ y, -57600 ≤ (Fn.trOf f.off f.B f.A y).o ∧ (Fn.trOf f.off f.B f.A y).o ≤ 57600 := fun y => by
  show -57600 ≤ f.off + f.B.v ∧ f.off + f.B.v ≤ 57600
  have := b.2.2; omega
 unfold Fn.gs Fn.sh1 Fn.sh2
 split <;> split <;> first | exact ka _ | exact kb _
theorem st_le {f : Fn.Ft} (L : Fn.LH f) {s b i j : Int} (a : Fn.St f s i) (c : Fn.St f b j) (h : s ≤ b) : i ≤ j := by
 obtain ⟨a1, a2, a3, a4⟩ := a
 obtain ⟨c1, c2, c3, c4⟩ := c
 rcases Int.lt_or_le j i with g | g
 ·exfalso
  rcases Int.lt_or_eq_of_le (show j + 1 ≤ i by omega) with k | k
  ·have := Fn.gs_lt L (i := j + 1) (j := i) (by omega) k (by omega); omega
  ·rw [k] at c4; omega
 ·exact g
theorem gs_le {f : Fn.Ft} (L : Fn.LH f) {i j : Int} (hi : -9434 ≤ i) (h : i ≤ j) (hj : j ≤ 588563) : (Fn.gs f i).t ≤ (Fn.gs f j).t := by
 rcases Int.lt_or_eq_of_le h with k | k
 ·exact Int.le_of_lt (Fn.gs_lt L hi k hj)
 ·rw [k]; exact Int.le_refl _
theorem ft_at {f : Fn.Ft} (L : Fn.LH f) {st b js jb : Int} (hS : Fn.St f st js) (hB : Fn.St f b jb) (hsb : st < b) {k : Nat} (hk : k ≤ (jb - js).toNat) :
  Fn.St f (stK st (ftL f js (jb - js).toNat) k) (js + k) ∧ st ≤ stK st (ftL f js (jb - js).toNat) k ∧ (stK st (ftL f js (jb - js).toNat) k) ≤ b := by
 have hle := st_le L hS hB (by omega)
 cases k with
 | zero =>
  rw [show stK st (ftL f js (jb - js).toNat) 0 = st from rfl, show js + ((0 : Nat) : Int) = js by omega]
  exact ⟨hS, by omega, by omega⟩
 | succ k =>
  rw [stK_ft (by omega), show js + ((k + 1 : Nat) : Int) = js + 1 + (k : Int) by omega]
  obtain ⟨s1, s2, s3, s4⟩ := hS
  obtain ⟨b1, b2, b3, b4⟩ := hB
  have e1 := Fn.gs_lt L (i := js + 1 + (k : Int)) (j := js + 1 + (k : Int) + 1) (by omega) (by omega) (by omega)
  have e2 := gs_le L (i := js + 1) (j := js + 1 + (k : Int)) (by omega) (by omega) (by omega)
  have e3 := gs_le L (i := js + 1 + (k : Int)) (j := jb) (by omega) (by omega) (by omega)
  exact ⟨⟨by omega, by omega, Int.le_refl _, e1⟩, by omega, by omega⟩
theorem ask_mid {a b t : Int} (ha : ask a) (hb : ask b) (h1 : a ≤ t) (h2 : t ≤ b) : ask t := by
 obtain ⟨a1, a2, ya, hya, ka⟩ := ha
 obtain ⟨b1, b2, yb, hyb, kb⟩ := hb
 obtain ⟨y, hy⟩ := Fn.yat_is t
 have ka' : -4714 ≤ ya ∧ ya ≤ 294278 := of_decide_eq_true ka
 have kb' : -4714 ≤ yb ∧ yb ≤ 294278 := of_decide_eq_true kb
 refine ⟨by omega, by omega, y, hy, ?_⟩
 rcases hya with ⟨ca, pa, qa⟩ | ⟨_, _, rfl⟩ | ⟨_, _, rfl⟩
 ·rcases hyb with ⟨cb, pb, qb⟩ | ⟨_, _, rfl⟩ | ⟨_, _, rfl⟩
  ·have na := Cvl.of_can ca
   have nb := Cvl.of_can cb
   have ct : Cvl.can (t / 86400 - 10957) = true := by unfold Cvl.can; exact decide_eq_true (by omega)
   rcases hy with ⟨_, p, q⟩ | ⟨c, _⟩ | ⟨c, _⟩
   ·have l1 := Cv.S_lt (show Cv.S ya < Cv.S (y + 1) by omega)
    have l2 := Cv.S_lt (show Cv.S y < Cv.S (yb + 1) by omega)
    exact decide_eq_true (by omega)
   ·rw [ct] at c; cases c
   ·rw [ct] at c; cases c
  ·omega
  ·omega
 ·omega
 ·omega
theorem ask_y {t : Int} (h : ask t) : ∃ y, Fn.YAt t y ∧ -4714 ≤ y ∧ y ≤ 294278 ∧ -9223372036854775808 ≤ t ∧ t ≤ 9223372036854775807 := by
 obtain ⟨t1, t2, y, hy, k⟩ := h
 have := of_decide_eq_true k
 exact ⟨y, hy, this.1, this.2, t1, t2⟩
theorem gTab9 : Tryz.prog.globalNamed "internal/strconv.uint64pow10" = some 2 := by kernel_rfl
theorem tab_keep {W W' : World} (h : Clk.Tab W) (hk : W'.heap[(2 : Nat)]? = W.heap[(2 : Nat)]?) : Clk.Tab W' := by
 unfold Clk.Tab Lib.TabIs World.var? at *
 rw [gTab9] at h ⊢
 simp only [Option.bind_some] at h ⊢
 rw [hk]
 exact h
theorem tab_lt {W : World} (h : Clk.Tab W) : (2 : Nat) < W.heap.size := by
 unfold Clk.Tab Lib.TabIs World.var? at h
 rw [gTab9] at h
 simp only [Option.bind_some] at h
 rcases Nat.lt_or_ge (2 : Nat) W.heap.size with h' | h'
 ·exact h'
 ·rw [Array.getElem?_eq_none h'] at h; simp at h
def OkF (sv : Value) (L : List TrR) (W : World) : Prop := OkN sv L W ∧ Clk.Tab W
theorem OkF.okS (sv : Value) (L : List TrR) : OkS ((2 : Nat) :: 1 :: bkS sv L) (OkF sv L) := by
 have h := OkN.okS sv L
 refine ⟨fun W W' hW hs hk => ⟨h.keep W W' hW.1 hs (fun k hk' => hk k (List.mem_cons_of_mem _ hk')), tab_keep hW.2 (hk _ List.mem_cons_self)⟩, fun W hW k hk => ?_, fun W hW => hW⟩
 rcases List.mem_cons.1 hk with rfl | hk
 ·exact tab_lt hW.2
 ·exact h.lt W hW.1 k hk
theorem OkF.below {sv : Value} {L : List TrR} {W W' : World} (h : OkF sv L W) (hb : Below W.heap.size W W') : OkF sv L W' := (OkF.okS sv L).below h hb
def Near (x : Int) (g : Zm.Gr) : Prop := 0 ≤ g.n ∧ (0 < g.n → x - 57600 ≤ g.f ∧ g.f ≤ x + 57600 ∧ x - 57600 ≤ g.l ∧ g.l ≤ x + 57600)
theorem Near.more {x : Int} {g : Zm.Gr} (h : Near x g) {o : Int} (h1 : -57600 ≤ o) (h2 : o ≤ 57600) : Near x (g.more (x - o)) ∧ 0 < (g.more (x - o)).n := by
 unfold Near Zm.Gr.more at *
 obtain ⟨a, b⟩ := h
 refine ⟨⟨by show 0 ≤ g.n + 1; omega, fun _ => ?_⟩, by show 0 < g.n + 1; omega⟩
 simp only []
 by_cases k : g.n = 0
 ·rw [if_pos k]; omega
 ·rw [if_neg k]; have := b (by omega); omega
theorem pGo_near (x : Int) : ∀ (l : List Zm.St) (gl gs : Zm.Gr), (∀ s ∈ l, -57600 ≤ s.o ∧ s.o ≤ 57600) → Near x gl → Near x gs → Near x (Zm.pGo x l (gl, gs)).1 ∧ Near x (Zm.pGo x l (gl, gs)).2 ∧ (0 < gl.n ∨ 0 < gs.n → 0 < (Zm.pGo x l (gl, gs)).1.n ∨ 0 < (Zm.pGo x l (gl, gs)).2.n)
 | [], gl, gs, _, h1, h2 => ⟨h1, h2, fun h => h⟩
 | s :: l, gl, gs, ho, h1, h2 => by
  have os := ho s List.mem_cons_self
  have ol : ∀ s ∈ l, -57600 ≤ s.o ∧ s.o ≤ 57600 := fun s hs => ho s (List.mem_cons_of_mem _ hs)
  unfold Zm.pGo
  by_cases k1 : Zm.less x s
  ·rw [if_pos k1]
   obtain ⟨a, b⟩ := h1.more os.1 os.2
   obtain ⟨p, q, r⟩ := pGo_near x l _ gs ol a h2
   exact ⟨p, q, fun _ => r (.inl b)⟩
  ·rw [if_neg k1]
   by_cases k2 : Zm.says x s
   ·rw [if_pos k2]
    obtain ⟨a, b⟩ := h2.more os.1 os.2
    obtain ⟨p, q, r⟩ := pGo_near x l gl _ ol h1 a
    exact ⟨p, q, fun _ => r (.inr b)⟩
   ·rw [if_neg k2]
    exact pGo_near x l gl gs ol h1 h2
theorem inV_near {x e o : Int} {r : List Zm.St} (he : x - 57600 ≤ e) (ho : ∀ s ∈ (⟨x - 57600, e, o⟩ : Zm.St) :: r, -57600 ≤ s.o ∧ s.o ≤ 57600) : x - 57600 ≤ inV (Zm.pGo x (⟨x - 57600, e, o⟩ :: r) (⟨0, 0, 0⟩, ⟨0, 0, 0⟩)) ∧ inV (Zm.pGo x (⟨x - 57600, e, o⟩ :: r) (⟨0, 0, 0⟩, ⟨0, 0, 0⟩)) ≤ x + 57600 := by
 have z : Near x ⟨0, 0, 0⟩ := ⟨Int.le_refl _, fun h => absurd h (by decide)⟩
 have oo := ho _ List.mem_cons_self
 have ol : ∀ s ∈ r, -57600 ≤ s.o ∧ s.o ≤ 57600 := fun s hs => ho s (List.mem_cons_of_mem _ hs)
 simp only [] at oo
 have key : ∀ gl gs : Zm.Gr, Near x gl → Near x gs → (0 < gl.n ∨ 0 < gs.n) → x - 57600 ≤ inV (Zm.pGo x r (gl, gs)) ∧ inV (Zm.pGo x r (gl, gs)) ≤ x + 57600 := fun gl gs h1 h2 h3 => by
  obtain ⟨p, q, k⟩ := pGo_near x r gl gs ol h1 h2
  have k := k h3
  unfold inV
  split
  ·have := p.2 (by have := q.1; omega); omega
  ·have := q.2 (by have := q.1; omega); omega
 unfold Zm.pGo
 by_cases k1 : Zm.less x ⟨x - 57600, e, o⟩
 ·rw [if_pos k1]
  obtain ⟨a, b⟩ := z.more oo.1 oo.2
  exact key _ _ a z (.inl b)
 ·rw [if_neg k1]
  have k2 : Zm.says x ⟨x - 57600, e, o⟩ := by unfold Zm.says; unfold Zm.less at k1; simp only [] at k1 ⊢; omega
  rw [if_pos k2]
  obtain ⟨a, b⟩ := z.more oo.1 oo.2
  exact key _ _ z a (.inr b)
theorem strs_head (a e o : Int) (l : List (Int × Int)) (ha : a ≤ e) (hl : ∀ c ∈ l, a ≤ c.1) : ∃ e' r, Zm.strs a e o l = ⟨a, e', o⟩ :: r ∧ a ≤ e' := by
 cases l with
 | nil => exact ⟨e, [], rfl, ha⟩
 | cons c l => exact ⟨c.1, _, rfl, hl c List.mem_cons_self⟩
def stsC (x0 : TrR) (ch : List TrR) (x : Int) : List Zm.St := Zm.strs (x - 57600) (x + 57600 + 1) x0.off (ch.map fun c => (c.at_, c.off))
theorem fin_ (nm : ByteArray) (f : TrR) (ft : Fn.Ft) (ao : Option Addr) (n c : Nat) (hnc : n ≤ c) (L : List TrR) (hn : L.length = n) (h : NoF f L) (hf : Fn.okF ft = true) (hla : ∀ x ∈ L, x.at_ < ft.fr) (f1 : -1000000000000000000 ≤ ft.fr) (f2 : ft.fr ≤ 1000000000000000000)
  (RT : ∀ w : World, OkF (.slice ao n c) L w → Calls Tryz.prog 31 #[.agg (tbF nm f (.slice ao n c) (Fn.fL ft)).toArray] w fun r' w' => r' = zr (.bool true) ∧ Below w.heap.size w w')
  (x : Int) (h0 : ask x) (h1 : ask (x - 57600)) (h2 : ask (x + 57600)) (x1 : -1000000000000000 ≤ x) (x2 : x ≤ 1000000000000000) :
  ∃ (x0 : TrR) (FT : List TrR), (-57600 ≤ x0.off ∧ x0.off ≤ 57600) ∧ (∀ c ∈ Zm.chg (x - 57600) (x + 57600) L ++ FT, (-57600 ≤ c.off ∧ c.off ≤ 57600) ∧ x - 57600 < c.at_) ∧
   (∃ ja, Fn.St ft (x - 57600) ja ∧ x0 = if ft.h = true ∧ ft.fr ≤ x - 57600 then trT (Fn.gs ft ja) else curT f L (Zm.cntLe (x - 57600) (L.map (·.at_)))) ∧
   ((x + 57600 ≤ max (x - 57600) (ft.fr - 1) ∧ FT = []) ∨ ∃ js jb, Fn.St ft (max (x - 57600) (ft.fr - 1)) js ∧ Fn.St ft (x + 57600) jb ∧ max (x - 57600) (ft.fr - 1) < x + 57600 ∧ FT = ftL ft js (jb - js).toNat) ∧ ∀ w : World, OkF (.slice ao n c) L w →
   Calls Tryz.prog 40 #[.agg (tbF nm f (.slice ao n c) (Fn.fL ft)).toArray, vi ki x] w fun r w' => r = zr (.tuple #[vi ki (inV (Zm.pGo x (stsC x0 (Zm.chg (x - 57600) (x + 57600) L ++ FT) x) (⟨0, 0, 0⟩, ⟨0, 0, 0⟩))), vi ki (inH (Zm.pGo x (stsC x0 (Zm.chg (x - 57600) (x + 57600) L ++ FT) x) (⟨0, 0, 0⟩, ⟨0, 0, 0⟩))), vi ki 0]) ∧ Below w.heap.size w w' := by
 have LHf := Fn.lh_of hf
 have hh : ft.h = true := by have := hf; unfold Fn.okF at this; simp at this; exact this.1.1.1.1.1
 have hS := OkF.okS (.slice ao n c) L
 have hF : (Fn.fL ft).length = 19 := rfl
 obtain ⟨ya, hya, ya1, ya2, ta1, ta2⟩ := ask_y h1
 obtain ⟨ja, hja, FA, _⟩ := Fn.stand_ok ft (x - 57600) ya hf hya ya1 ya2 ta1 ta2
 obtain ⟨yb, hyb, yb1, yb2, tb1, tb2⟩ := ask_y h2
 obtain ⟨jb, hjb, _, _⟩ := Fn.stand_ok ft (x + 57600) yb hf hyb yb1 yb2 tb1 tb2
 have hx0 : ∃ x0 : TrR, (-57600 ≤ x0.off ∧ x0.off ≤ 57600) ∧ (x0 = if ft.h = true ∧ ft.fr ≤ x - 57600 then trT (Fn.gs ft ja) else curT f L (Zm.cntLe (x - 57600) (L.map (·.at_)))) ∧ ∀ w : World, OkF (.slice ao n c) L w → Calls Tryz.prog 79 #[.agg (tbF nm f (.slice ao n c) (Fn.fL ft)).toArray, vi ki (x - 57600)] w fun r w' => r = zr (.agg #[vi ki x0.at_, vi ki x0.off, .bool x0.dst, .string x0.ab]) ∧ Below w.heap.size w w' := by
  refine ⟨if ft.h = true ∧ ft.fr ≤ x - 57600 then trT (Fn.gs ft ja) else curT f L (Zm.cntLe (x - 57600) (L.map (·.at_))), ?_, rfl, fun w hw => ?_⟩
  ·split
   ·exact gs_off hf ja
   ·exact h.cur _
  ·exact stand_any nm f (.slice ao n c) (Fn.fL ft) hF ft.h ft.fr (x - 57600) rfl rfl L h.rises h.h3 (trT (Fn.gs ft ja)) 0 w hw.1.1 (fun _ _ W hb => FA W (hw.below hb).1.2 (hw.below hb).2)
 obtain ⟨x0, hx0o, hx0e, ST⟩ := hx0
 have hFT : ∃ FT : List TrR, ((x + 57600 ≤ max (x - 57600) (ft.fr - 1) ∧ FT = []) ∨ ∃ js jb, Fn.St ft (max (x - 57600) (ft.fr - 1)) js ∧ Fn.St ft (x + 57600) jb ∧ max (x - 57600) (ft.fr - 1) < x + 57600 ∧ FT = ftL ft js (jb - js).toNat) ∧ (∀ c ∈ FT, (-57600 ≤ c.off ∧ c.off ≤ 57600) ∧ x - 57600 < c.at_) ∧ FT.length ≤ 600000 ∧ (∀ y ∈ L, x + 57600 < y.at_ → FT = []) ∧ (∀ k, k < FT.length → stK (max (x - 57600) (ft.fr - 1)) FT k < x + 57600) ∧
   (∀ k, k ≤ FT.length → stK (max (x - 57600) (ft.fr - 1)) FT k < x + 57600 → ∃ (y : TrR) (er : Int), (∀ V : World, OkF (.slice ao n c) L V → Calls Tryz.prog 206 #[.agg (Fn.fL ft).toArray, vi ki (stK (max (x - 57600) (ft.fr - 1)) FT k)] V fun r w' => r = zr (.tuple #[.agg #[vi ki y.at_, vi ki y.off, .bool y.dst, .string y.ab], vi ki er]) ∧ Below V.heap.size V w') ∧ stK (max (x - 57600) (ft.fr - 1)) FT k < y.at_ ∧ (k < FT.length → FT[k]? = some y ∧ y.at_ ≤ x + 57600) ∧ (k = FT.length → x + 57600 < y.at_)) := by
  obtain ⟨st, hst⟩ : ∃ st, max (x - 57600) (ft.fr - 1) = st := ⟨_, rfl⟩
  rw [hst]
  have hst1 : x - 57600 ≤ st ∧ ft.fr - 1 ≤ st ∧ (st = x - 57600 ∨ st = ft.fr - 1) := by omega
  by_cases hsb : st < x + 57600
  ·obtain ⟨ys, hys, ys1, ys2, ts1, ts2⟩ := ask_y (ask_mid h1 h2 hst1.1 (by omega))
   obtain ⟨js, hjs, _, _⟩ := Fn.stand_ok ft st ys hf hys ys1 ys2 ts1 ts2
   have hle := st_le LHf hjs hjb (by omega)
   have A : ∀ k, k ≤ (jb - js).toNat → _ := fun k hk => ft_at LHf hjs hjb hsb (k := k) hk
   have b3 := hjb.2.2.1
   have b4 := hjb.2.2.2
   have jr : -9434 ≤ js ∧ jb ≤ 588562 := ⟨hjs.1, hjb.2.1⟩
   refine ⟨ftL ft js (jb - js).toNat, .inr ⟨js, jb, hjs, hjb, hsb, rfl⟩, ?_, by rw [ftL_len]; omega, fun y hy hgt => ?_, fun k hk => ?_, fun k hk hlt => ?_⟩
   ·intro c hc
    obtain ⟨k, hk⟩ := List.getElem?_of_mem hc
    have hk2 : k < (jb - js).toNat := by have := (List.getElem?_eq_some_iff.1 hk).1; rwa [ftL_len] at this
    rw [ftL_get hk2] at hk
    obtain rfl : trT (Fn.gs ft (js + 1 + (k : Int))) = c := by simpa using hk
    have e := A (k + 1) (by omega)
    rw [stK_ft hk2] at e
    have e2 := (A 0 (by omega)).1.2.2.2
    rw [show stK st (ftL ft js (jb - js).toNat) 0 = st from rfl, show js + ((0 : Nat) : Int) + 1 = js + 1 by omega] at e2
    have e3 := gs_le LHf (i := js + 1) (j := js + 1 + (k : Int)) (by omega) (by omega) (by omega)
    exact ⟨gs_off hf _, by show x - 57600 < (Fn.gs ft (js + 1 + (k : Int))).t; omega⟩
   ·have := hla y hy; omega
   ·rw [ftL_len] at hk
    cases k with
    | zero => exact hsb
    | succ k =>
     rw [stK_ft (by omega)]
     have := Fn.gs_lt LHf (i := js + 1 + (k : Int)) (j := jb) (by omega) (by omega) (by omega)
     omega
   ·rw [ftL_len] at hk
    obtain ⟨a1, a2, a3⟩ := A k hk
    obtain ⟨s, hs⟩ : ∃ s, stK st (ftL ft js (jb - js).toNat) k = s := ⟨_, rfl⟩
    rw [hs] at a1 a2 a3 hlt ⊢
    obtain ⟨y9, hy9, q1, q2, q3, q4⟩ := ask_y (ask_mid h1 h2 (show x - 57600 ≤ s by omega) a3)
    obtain ⟨j, hj, _, NXT⟩ := Fn.stand_ok ft s y9 hf hy9 q1 q2 q3 q4
    obtain rfl := Fn.St.one LHf hj a1
    refine ⟨trT (Fn.gs ft (js + (k : Int) + 1)), 0, fun V hV => NXT V hV.1.2 hV.2, hj.2.2.2, fun hkl => ?_, fun hke => ?_⟩
    ·rw [ftL_len] at hkl
     rw [ftL_get hkl, show js + (k : Int) + 1 = js + 1 + (k : Int) by omega]
     refine ⟨rfl, ?_⟩
     have := gs_le LHf (i := js + 1 + (k : Int)) (j := jb) (by omega) (by omega) (by omega)
     show (Fn.gs ft (js + 1 + (k : Int))).t ≤ _
     omega
    ·rw [ftL_len] at hke
     show _ < (Fn.gs ft (js + (k : Int) + 1)).t
     rw [show js + (k : Int) + 1 = jb + 1 by omega]
     exact b4
  ·refine ⟨[], .inl ⟨by omega, rfl⟩, (fun c hc => by cases hc), by simp, (fun _ _ _ => rfl), (fun k hk => by simp at hk), fun k hk hlt => ?_⟩
   have hk0 : k = 0 := by simpa using hk
   subst hk0
   exact absurd hlt hsb
 obtain ⟨FT, hFTi, hFTo, hFTl, hLF, hlt, NX⟩ := hFT
 have hcl : (Zm.chg (x - 57600) (x + 57600) L).length ≤ L.length := Nat.le_trans (tw_sub _).1 (by rw [List.length_drop]; omega)
 have hcm : ∀ c ∈ Zm.chg (x - 57600) (x + 57600) L, c ∈ L := fun c hc => List.mem_of_mem_drop ((tw_sub _).2 c hc)
 have hcg : ∀ c ∈ Zm.chg (x - 57600) (x + 57600) L, x - 57600 < c.at_ := fun c hc => by
  unfold Zm.chg at hc
  rw [Zm.drop_take (fun y : TrR => y.at_) _ _ L h.rises] at hc
  have := (List.mem_filter.1 hc).2
  simp at this
  exact this.1
 have hch : ∀ c ∈ Zm.chg (x - 57600) (x + 57600) L ++ FT, (-57600 ≤ c.off ∧ c.off ≤ 57600) ∧ x - 57600 < c.at_ := fun c hc => by
  rcases List.mem_append.1 hc with hc | hc
  ·exact ⟨h.off (hcm c hc), hcg c hc⟩
  ·exact hFTo c hc
 refine ⟨x0, FT, hx0o, hch, ⟨ja, hja, hx0e⟩, hFTi, fun w HO => ?_⟩
 have AS : ∀ t, ask t → ∀ W : World, Below w.heap.size w W → Calls Tryz.prog 78 #[vi ki t] W fun r w' => r = zr (.bool true) ∧ w' = W := fun t ⟨t1, t2, y, hy, ha⟩ W hb => by
  have R := asked_any t y W (Fn.yat_any t y hy t1 t2 W (HO.below hb).1.2)
  rw [ha] at R
  exact R
 refine zin_yes _ (tbF_len hF) x x1 x2 _ w (fun W hb => RT W (HO.below hb)) (AS _ h0) (AS _ h1) (AS _ h2) (fun W hb => ?_)
 have hl : (stsC x0 (Zm.chg (x - 57600) (x + 57600) L ++ FT) x).length = (Zm.chg (x - 57600) (x + 57600) L ++ FT).length + 1 := by unfold stsC; rw [strs_len, List.length_map]
 refine hear_any _ (tbF_len hF) _ _ hS x x1 x2 (stsC x0 (Zm.chg (x - 57600) (x + 57600) L ++ FT) x) (by rw [hl, List.length_append]; have := h.h3; omega) ?_ ?_ W (HO.below hb)
 ·exact strs_off _ (fun o => -57600 ≤ o ∧ o ≤ 57600) _ _ _ hx0o (fun c hc => by obtain ⟨d, hd, rfl⟩ := List.mem_map.1 hc; exact (hch d hd).1)
 ·intro V b m hm hV X1 X2 X3
  rw [hl]
  refine strs_seq _ (tbF_len hF) _ _ hS (x - 57600) (x + 57600 + 1) (by omega) (by omega) x0 (Zm.chg (x - 57600) (x + 57600) L ++ FT) (fun U hU => ST U hU) (fun U b m hU Z1 Z2 Z3 => ?_) V m hm _ _ _ X1 X2 X3 hV
  rw [show x + 57600 + 1 - 1 = x + 57600 by omega] at Z3
  exact chs_ft _ (tbF_len hF) _ _ hS (x - 57600) (x + 57600) ao n c hnc L rfl (by rw [← hh]; rfl) ft.fr rfl f1 f2 (Fn.fL ft) rfl hF h.rises h.h3 hn (fun V hV => hV.1.1) _ rfl FT hLF hlt NX U m b (b + 1) (b + 2) Z1 Z2 Z3 hU
end Go.Proofs.YtklehbmghjcmaaaGreatDoor
namespace Go.Proofs.YtklehbmghjcmaaaGreatDoor
namespace Wd
def dg (v i : Nat) : Nat := v / 4294967296 ^ i % 4294967296
end Wd
end Go.Proofs.YtklehbmghjcmaaaGreatDoor
namespace Go.Proofs.YtklehbmghjcmaaaGreatDoor
open Go.RowKit
def Row (w : World) (b v : Nat) : Prop := v < 4294967296 ^ 6 ∧ b < w.heap.size ∧ ∀ i, i < 6 → w.cell? ⟨b, i, none⟩ = some (.int .u64 ((Wd.dg v i : Nat) : Int))
theorem Row.below {w w' : World} {B b v : Nat} (h : Row w b v) (hb : Below B w w') (hB : b < B) : Row w' b v :=
 ⟨h.1, Nat.lt_of_lt_of_le h.2.1 hb.size, fun i hi => (hb.cell (p := ⟨b, i, none⟩) hB).trans (h.2.2 i hi)⟩
theorem Row.drew {w : World} {b v : Nat} (h : Row w b v) : Row w.drew b v := h
structure Part (w wr : World) (N : Nat) (f : Nat → Nat) : Prop where
 below : Below N w wr
 size : N < wr.heap.size
 cell : ∀ j, j < 6 → wr.cell? ⟨N, j, none⟩ = some (.int .u64 ((f j : Nat) : Int))
 free : ∀ j, j < 6 → wr.frozen? ⟨N, j, none⟩ = false
theorem Part.congr {w wr : World} {N : Nat} {f g : Nat → Nat} (h : Part w wr N f) (e : ∀ j, j < 6 → f j = g j) : Part w wr N g :=
 ⟨h.below, h.size, fun j hj => by rw [← e j hj]; exact h.cell j hj, h.free⟩
theorem Part.drew {w wr : World} {N : Nat} {f : Nat → Nat} (h : Part w wr N f) : Part w wr.drew N f := ⟨h.below.drew, h.size, h.cell, h.free⟩
theorem Part.set {w wr : World} {N k x : Nat} {f : Nat → Nat} (h : Part w wr N f) (hk : k < 6) : Part w (wr.setCell ⟨N, k, none⟩ (.int .u64 (x : Int))) N (fun j => if j = k then x else f j) := by
 refine ⟨h.below.setCell (Nat.le_refl _) _, by simpa [World.setCell] using h.size, fun j hj => ?_, fun j hj => ?_⟩
 ·by_cases e : j = k
  ·subst e
   rw [if_pos rfl]
   exact World.cell?_setCell_same _ _ _ (h.cell j hj)
  ·rw [if_neg e]
   exact (World.cell?_setCell_other _ _ _ _ (fun x => by cases x; exact e rfl)).trans (h.cell j hj)
 ·rw [World.frozen?_setCell]; exact h.free j hj
theorem Part.row {w wr : World} {N v : Nat} (h : Part w wr N (fun j => Wd.dg v j)) (hv : v < 4294967296 ^ 6) : Row wr N v := ⟨hv, h.size, h.cell⟩
end Go.Proofs.YtklehbmghjcmaaaGreatDoor
namespace Go.Proofs.YtklehbmghjcmaaaGreatDoor
open Go.RowKit
theorem Row.alloc {w : World} {b v : Nat} (h : Row w b v) (o : Obj) : Row (w.alloc o) b v :=
 h.below ((Below.refl w.heap.size w).alloc (Nat.le_refl _) o) h.2.1
theorem Row.setCell {w : World} {b v : Nat} (h : Row w b v) {a : Addr} (ha : a.block ≠ b) (x : Value) : Row (w.setCell a x) b v :=
 ⟨h.1, by simpa [World.setCell] using h.2.1, fun i hi => (World.cell?_setCell_other _ _ _ _ (fun e => ha (by rw [e]))).trans (h.2.2 i hi)⟩
end Go.Proofs.YtklehbmghjcmaaaGreatDoor
namespace Go.Proofs.YtklehbmghjcmaaaGreatDoor
open Go.RowKit
end Go.Proofs.YtklehbmghjcmaaaGreatDoor
namespace Go.Proofs.YtklehbmghjcmaaaGreatDoor
open Go.RowKit
end Go.Proofs.YtklehbmghjcmaaaGreatDoor
namespace Go.Proofs.YtklehbmghjcmaaaGreatDoor
open Go.RowKit
end Go.Proofs.YtklehbmghjcmaaaGreatDoor
namespace Go.Proofs.YtklehbmghjcmaaaGreatDoor
open Go.RowKit
end Go.Proofs.YtklehbmghjcmaaaGreatDoor
namespace Go.Proofs.YtklehbmghjcmaaaGreatDoor
open Go.RowKit
def IsW (w : World) (v : Value) (x : Int) : Prop := ∃ b, v = .agg #[.bool (decide (x < 0)), .slice (some ⟨b, 0, none⟩) 6 6] ∧ Row w b x.natAbs
theorem IsW.below {w w1 : World} {v : Value} {x : Int} (h : IsW w v x) (hb : Below w.heap.size w w1) : IsW w1 v x := by
 obtain ⟨b, hv, hr⟩ := h
 exact ⟨b, hv, hr.below hb hr.2.1⟩
end Go.Proofs.YtklehbmghjcmaaaGreatDoor
namespace Go.Proofs.YtklehbmghjcmaaaGreatDoor
open Go.RowKit
theorem wsub_in (a b : Int) (h1 : -9223372036854775808 ≤ a) (h2 : a ≤ 9223372036854775807) (h3 : -9223372036854775808 ≤ b) (h4 : b ≤ 9223372036854775807)
  (l1 : -9223372036854775808 ≤ a - b) (l2 : a - b ≤ 9223372036854775807) (w : World) :
  Calls Tryz.prog 115 #[vi ki a, vi ki b] w fun e w' => e = zr (.tuple #[vi ki (a - b), vi ki 0]) ∧ w' = w := by
 by_cases h : b < 0
 ·have hs : a < a - b := by omega
  go_enter Tryz.func115, Tryz.ntmps115
  go_wp2
  go_ret2
  exact ⟨rfl, rfl⟩
 ·have hs : ¬ a < a - b := by omega
  go_enter Tryz.func115, Tryz.ntmps115
  go_wp2
  go_ret2
  exact ⟨rfl, rfl⟩
theorem wsub_out (a b : Int) (h1 : -9223372036854775808 ≤ a) (h2 : a ≤ 9223372036854775807) (h3 : -9223372036854775808 ≤ b) (h4 : b ≤ 9223372036854775807)
  (l : a - b < -9223372036854775808 ∨ 9223372036854775807 < a - b) (w : World) :
  Calls Tryz.prog 115 #[vi ki a, vi ki b] w fun e w' => e = zr (.tuple #[vi ki 0, vi ki 10]) ∧ w' = w := by
 rcases l with l | l
 ·have h : ¬ b < 0 := by omega
  have hs : a < wrap64 (a - b) := by unfold wrap64; omega
  clear l
  go_enter Tryz.func115, Tryz.ntmps115
  go_wp2
  go_ret2
  exact ⟨rfl, rfl⟩
 ·have h : b < 0 := by omega
  have hs : ¬ a < wrap64 (a - b) := by unfold wrap64; omega
  clear l
  go_enter Tryz.func115, Tryz.ntmps115
  go_wp2
  go_ret2
  exact ⟨rfl, rfl⟩
theorem wsub_any (a b : Int) (h1 : -9223372036854775808 ≤ a) (h2 : a ≤ 9223372036854775807) (h3 : -9223372036854775808 ≤ b) (h4 : b ≤ 9223372036854775807) (w : World) :
  Calls Tryz.prog 115 #[vi ki a, vi ki b] w fun e w' => e = zr (.tuple #[vi ki (smV (a - b)), vi ki (smE (a - b))]) ∧ w' = w := by
 by_cases l : -9223372036854775808 ≤ a - b ∧ a - b ≤ 9223372036854775807
 ·rw [smV_in l.1 l.2, smE_in l.1 l.2]; exact wsub_in a b h1 h2 h3 h4 l.1 l.2 w
 ·rw [smV_out (by omega), smE_out (by omega)]; exact wsub_out a b h1 h2 h3 h4 (by omega) w
end Go.Proofs.YtklehbmghjcmaaaGreatDoor
namespace Go.Proofs.YtklehbmghjcmaaaGreatDoor
open Go.RowKit
end Go.Proofs.YtklehbmghjcmaaaGreatDoor
namespace Go.Proofs.YtklehbmghjcmaaaGreatDoor
open Go.RowKit
end Go.Proofs.YtklehbmghjcmaaaGreatDoor
namespace Go.Proofs.YtklehbmghjcmaaaGreatDoor
open Go.RowKit
end Go.Proofs.YtklehbmghjcmaaaGreatDoor
namespace Go.Proofs.YtklehbmghjcmaaaGreatDoor
open Go.RowKit
end Go.Proofs.YtklehbmghjcmaaaGreatDoor
namespace Go.Proofs.YtklehbmghjcmaaaGreatDoor
open Go.RowKit
end Go.Proofs.YtklehbmghjcmaaaGreatDoor
namespace Go.Proofs.YtklehbmghjcmaaaGreatDoor
open Go.RowKit
theorem over_math (x c : Int) (hc : c ≠ 0) : x.fdiv c = if (decide (x < 0) != decide (c < 0)) = true then (if x.natAbs % c.natAbs = 0 then -((x.natAbs / c.natAbs : Nat) : Int) else -((x.natAbs / c.natAbs : Nat) : Int) - 1) else ((x.natAbs / c.natAbs : Nat) : Int) := by
 have h := scale_math x 1 c x.natAbs c.natAbs (by simp) rfl hc
 rw [Int.mul_one, show decide ((1 : Int) < 0) = false from rfl, Bool.bne_false] at h
 exact h
end Go.Proofs.YtklehbmghjcmaaaGreatDoor
namespace Go.Proofs.YtklehbmghjcmaaaGreatDoor
open Go.RowKit
end Go.Proofs.YtklehbmghjcmaaaGreatDoor
namespace Go.Proofs.YtklehbmghjcmaaaGreatDoor
open Go.RowKit
theorem fdiv_in (a b : Int) (h1 : -9223372036854775808 ≤ a) (h2 : a ≤ 9223372036854775807) (hb : b ≠ 0) (h : a ≠ -9223372036854775808 ∨ b ≠ -1) : -9223372036854775808 ≤ a.fdiv b ∧ a.fdiv b ≤ 9223372036854775807 := by
 have hm := over_math a b hb
 by_cases o : b.natAbs = 1
 ·rw [o, Nat.div_one, Nat.mod_one, if_pos rfl] at hm
  rw [hm]
  rcases (show b = 1 ∨ b = -1 by omega) with rfl | rfl
  ·split
   ·omega
   ·rename_i hs
    have : ¬ a < 0 := fun hn => hs (by rw [decide_eq_true hn]; rfl)
    omega
  ·split <;> omega
 ·have hq : a.natAbs / b.natAbs ≤ a.natAbs / 2 := Nat.div_le_div_left (by omega) (by decide)
  generalize a.natAbs / b.natAbs = Q at *
  generalize a.natAbs % b.natAbs = R at *
  rw [hm]
  split
  ·split <;> omega
  ·omega
theorem div_any (a b : Int) (h1 : -9223372036854775808 ≤ a) (h2 : a ≤ 9223372036854775807) (h3 : -9223372036854775808 ≤ b) (h4 : b ≤ 9223372036854775807) (hb : b ≠ 0) (w : World) :
  Calls Tryz.prog 80 #[vi ki a, vi ki b] w fun e w' => e = zr (.tuple #[vi ki (smV (a.fdiv b)), vi ki (smE (a.fdiv b))]) ∧ w' = w := by
 by_cases h : a ≠ -9223372036854775808 ∨ b ≠ -1
 ·obtain ⟨g1, g2⟩ := fdiv_in a b h1 h2 hb h
  rw [smV_in g1 g2, smE_in g1 g2]
  exact div_in a b h1 h2 h3 h4 hb h w
 ·obtain ⟨rfl, rfl⟩ : a = -9223372036854775808 ∧ b = -1 := by omega
  have e : (-9223372036854775808 : Int).fdiv (-1) = 9223372036854775808 := by decide
  rw [e, smV_out (by omega), smE_out (by omega)]
  exact div_edge w
end Go.Proofs.YtklehbmghjcmaaaGreatDoor
