import Derived.Test.YtpdmndlpgjjopaaGreatDoorQz
import Derived.Test.YtpdmndlpgjjopaaGreatDoorQ1
import Derived.Deep.Heap
import Derived.Deep.Upon
import Derived.Laws.AppendOwn
import Derived.Test.YtpdmndlpgjjopaaGreatDoorQ0
import Derived.Deep.RegionHeld3
import Derived.Deep.MidRow
import Derived.Deep.Cut
import Derived.Deep.QuietTactic
import Derived.BigQuiet
import Derived.Deep.LoopGhost
import Derived.Laws.StructEq
import Derived.Deep.CutRange
import Derived.Deep.DeepCutAuto
open Go.Value renaming int → vi
open Go.IntKind renaming i64 → ki
open List renaming setIfInBounds_toArray → zb, set_cons_zero → zc, set_cons_succ → zd
open Go.Act renaming put → za
open Go.Ending renaming returned → zr
set_option maxRecDepth 100000
set_option maxHeartbeats 16000000
set_option linter.unusedVariables false
namespace Go.Proofs.YtpdmndlpgjjopaaGreatDoor
open Go.RowKit
def Ty (W : World) (b : Nat) (t : TypeId) : Prop := ∃ cur fz, W.heap[b]? = some (.cells cur t fz)
theorem Ty.lt {W : World} {b : Nat} {t : TypeId} (h : Ty W b t) : b < W.heap.size := by
 obtain ⟨c, f, h⟩ := h
 exact (Array.getElem?_eq_some_iff.1 h).1
theorem Ty.below {W V : World} {b : Nat} {t : TypeId} (h : Ty W b t) (hb : Below W.heap.size W V) : Ty V b t := by
 obtain ⟨c, f, h⟩ := h
 exact ⟨c, f, (hb.block b (Array.getElem?_eq_some_iff.1 h).1).trans h⟩
theorem Ty.new (W : World) (cs : Array Value) (t : TypeId) : Ty (W.alloc (.cells cs t)) W.heap.size t := ⟨cs, (0, 0), by show (W.heap.push _)[W.heap.size]? = _; simp⟩
theorem Ty.setCell {W : World} {b : Nat} {t : TypeId} (h : Ty W b t) (a : Addr) (v : Value) : Ty (W.setCell a v) b t := by
 obtain ⟨c, f, h⟩ := h
 by_cases e : a.block = b
 ·refine ⟨if a.spot.isSome then c else c.setIfInBounds a.off v, f, ?_⟩
  simp only [World.setCell]
  rw [Array.getElem?_modify, e, if_pos rfl, h]
  rfl
 ·refine ⟨c, f, ?_⟩
  simp only [World.setCell]
  rw [Array.getElem?_modify, if_neg e, h]
theorem Ty.setCells {b : Nat} {t : TypeId} (g : Nat) : ∀ (vs : List Value) (W : World) (i : Nat), Ty W b t → Ty (W.setCells g i vs) b t
 | [], _, _, h => h
 | v :: vs, W, i, h => Ty.setCells g vs _ _ (h.setCell _ v)
theorem Ty.grown {W V : World} {b : Nat} {t : TypeId} {r : Option Nat} (h : Ty W b t) (hg : W.grownBy V r) (hn : some b ≠ r) : Ty V b t := by
 obtain ⟨c, f, e⟩ := h
 exact ⟨c, f, (hg.block b (Array.getElem?_eq_some_iff.1 e).1 hn).trans e⟩
theorem own_ne {W : World} {base : Nat} {e t : TypeId} {size : Nat} {v : Value} {n b : Nat} {xs : List Value} (h : W.ownsRow base e size v n xs) (ht : Ty W b t) (he : e ≠ t) : some b ≠ v.ownBlock := by
 rcases h.2 with ⟨rfl, _⟩ | ⟨g, cap, cur, rfl, _, hg, _⟩
 ·simp [Value.ownBlock]
 ·intro q
  simp [Value.ownBlock] at q
  subst q
  obtain ⟨c, f, hc⟩ := ht
  rw [hg] at hc
  simp at hc
  exact he hc.2.1
theorem own_off {W : World} {base : Nat} {e : TypeId} {size : Nat} {v : Value} {n b : Nat} {xs : List Value} (h : W.ownsRow base e size v n xs) (hb : some b ≠ v.ownBlock) (vs : List Value) (j : Nat) : (W.setCells b j vs).ownsRow base e size v n xs := by
 refine ⟨h.1, ?_⟩
 rcases h.2 with h2 | ⟨g, cap, cur, rfl, h3, h4, h5⟩
 ·exact .inl h2
 ·refine .inr ⟨g, cap, cur, rfl, h3, ?_, h5⟩
  rw [World.heap_setCells_other W b j vs (Array.getElem?_eq_some_iff.1 h4).1 (fun q => hb (by rw [q]; rfl))]
  exact h4
theorem bs_grownS {w W W' : World} {l : List (Nat × List Value)} {v : Value} (h : BS w l W) (hl : ∀ x ∈ l, some x.1 ≠ v.ownBlock) (hw : ∀ k, v.ownBlock = some k → w.heap.size ≤ k) (hg : W.grownBy W' v.ownBlock) : BS w l W' := by
 refine ⟨⟨hg.os.trans h.1.os, hg.tape.trans h.1.tape, hg.output.trans h.1.output, Nat.le_trans h.1.size hg.size, fun k hk => (hg.block k (Nat.lt_of_lt_of_le hk h.1.size) (fun e => by have := hw k e.symm; omega)).trans (h.1.block k hk)⟩, fun x hx => ⟨(h.2 x hx).1, ?_⟩⟩
 have hx1 := (h.2 x hx).2
 have hk := hg.block x.1 hx1.1 (hl x hx)
 exact ⟨Nat.lt_of_lt_of_le hx1.1 hg.size, fun i u e => ⟨(World.cell?_of_block (w := W) hk).trans (hx1.2 i u e).1, (World.frozen?_of_block (w := W) hk).trans (hx1.2 i u e).2⟩⟩
structure FS (w : World) (base p nb : Nat) (A N : List Value) (v : Value) (i : Nat) (L : List Value) (W : World) : Prop where
 bs : BS w [(p, A), (nb, N)] W
 tp : Ty W p 89
 own : W.ownsRow base 36 2 v i L
 nl : nb < base
 pl : base ≤ p
theorem FS.below {w : World} {base p nb : Nat} {A N : List Value} {v : Value} {i : Nat} {L : List Value} {W V : World} (h : FS w base p nb A N v i L W) (hb : Below W.heap.size W V) : FS w base p nb A N v i L V :=
 ⟨h.bs.below hb, h.tp.below hb, own_keepS h.own hb, h.nl, h.pl⟩
theorem FS.size {w : World} {base p nb : Nat} {A N : List Value} {v : Value} {i : Nat} {L : List Value} {W : World} (h : FS w base p nb A N v i L W) : base ≤ W.heap.size := Nat.le_trans h.pl (Nat.le_of_lt h.tp.lt)
theorem FS.nen {w : World} {base p nb : Nat} {A N : List Value} {v : Value} {i : Nat} {L : List Value} {W : World} (h : FS w base p nb A N v i L W) : some nb ≠ v.ownBlock := fun e => by
 have := (h.own.lt nb e.symm).1
 have := h.nl
 omega
theorem FS.ne {w : World} {base p nb : Nat} {A N : List Value} {v : Value} {i : Nat} {L : List Value} {W : World} (h : FS w base p nb A N v i L W) : nb ≠ p := by
 have := h.nl
 have := h.pl
 omega
theorem FS.grown {w : World} {base p nb : Nat} {A N : List Value} {v v' : Value} {i m : Nat} {L L' : List Value} {W V : World} (h : FS w base p nb A N v i L W) (o : Obj) (hg : (W.alloc o).grownBy V v.ownBlock) (ho : V.ownsRow base 36 2 v' m L') : FS w base p nb A N v' m L' V := by
 have hb : Below W.heap.size W (W.alloc o) := (Below.refl _ W).alloc (Nat.le_refl _) o
 have h1 := h.below hb
 have n1 := own_ne h1.own h1.tp (by decide)
 refine ⟨bs_grownS h1.bs ?_ (fun k hk => ?_) hg, h1.tp.grown hg n1, ho, h.nl, h.pl⟩
 ·intro x hx
  simp only [List.mem_cons, List.not_mem_nil, or_false] at hx
  rcases hx with rfl | rfl
  ·exact n1
  ·exact h1.nen
 ·have e1 := (h.own.lt k hk).1
  have e2 := (h.bs.2 (nb, N) (by simp)).1
  have e3 := h.nl
  simp only [] at e2
  omega
theorem FS.setP {w : World} {base p nb : Nat} {A N : List Value} {v : Value} {i : Nat} {L : List Value} {W : World} (h : FS w base p nb A N v i L W) (vs : List Value) (hl : A.length = vs.length) : FS w base p nb vs N v i L (W.setCells p 0 vs) :=
 ⟨h.bs.set vs hl (by intro x hx; simp only [List.mem_cons, List.not_mem_nil, or_false] at hx; subst hx; exact h.ne), Ty.setCells p vs W 0 h.tp, own_off h.own (own_ne h.own h.tp (by decide)) vs 0, h.nl, h.pl⟩
theorem FS.setN {w : World} {base p nb : Nat} {A : List Value} {x y a b c u r : Value} {v : Value} {i : Nat} {L : List Value} {W : World} (h : FS w base p nb A [x, y, a, b, c] v i L W) : FS w base p nb A [u, r, a, b, c] v i L (W.setCells nb 0 [u, r]) := by
 have hs := h.bs.swap
 have e : ∀ z ∈ [(p, A)], z.1 ≠ nb := by intro z hz; simp only [List.mem_cons, List.not_mem_nil, or_false] at hz; subst hz; exact fun q => h.ne q.symm
 have h1 := hs.set1 0 u (by simp) e
 have h2 := h1.set1 1 r (by simp) e
 simp only [List.set_cons_zero, List.set_cons_succ] at h2
 exact ⟨h2.swap, Ty.setCells nb _ W 0 h.tp, own_off h.own h.nen _ 0, h.nl, h.pl⟩
theorem FS.newP {w : World} {base p nb : Nat} {A N : List Value} {v : Value} {i : Nat} {L : List Value} {W : World} (h : FS w base p nb A N v i L W) : FS w base W.heap.size nb A N v i L (W.alloc (.cells A.toArray 89)) := by
 have hb : Below W.heap.size W (W.alloc (.cells A.toArray 89)) := (Below.refl _ W).alloc (Nat.le_refl _) _
 have h1 := h.below hb
 exact ⟨h.bs.tail.new A _ rfl, Ty.new _ _ _, h1.own, h.nl, h.size⟩
theorem own_mono {W : World} {b1 b2 : Nat} {e : TypeId} {size : Nat} {v : Value} {n : Nat} {xs : List Value} (h : W.ownsRow b2 e size v n xs) (hb : b1 ≤ b2) : W.ownsRow b1 e size v n xs := by
 refine ⟨h.1, ?_⟩
 rcases h.2 with h2 | ⟨g, cap, cur, h1, h3, h4⟩
 ·exact .inl h2
 ·exact .inr ⟨g, cap, cur, h1, Nat.le_trans hb h3, h4⟩
def cT (L : List Int) : List Value := L.flatMap fun x => [vi ki 0, vi ki x]
theorem cT_app (L M : List Int) : cT (L ++ M) = cT L ++ cT M := by simp [cT]
theorem cT_one (L : List Int) : ∀ u ∈ cT L, u.oneCell' = true := fun u hu => by
 simp only [cT, List.mem_flatMap, List.mem_cons, List.not_mem_nil, or_false] at hu
 obtain ⟨x, _, rfl | rfl⟩ := hu <;> rfl
theorem infoSt : (Tryz.prog.info? 36).map (fun i => (i.zero, i.size, i.bytes)) = some (some (.agg #[vi ki 0, vi ki 0]), 2, 16) := by kernel_rfl
def ahC (bi bu d : Int) : Option Int → List Value
 | none => [vi ki 0, vi ki 0, vi ki 0, vi ki 0, vi ki 0]
 | some q => [vi ki 0, vi ki q, vi ki bi, vi ki bu, vi ki d]
def okA (ld : Int → Int → Bool) : Option Int → Int → Bool
 | none, _ => true
 | some q, x => ld q x
def folF (N : Int → Int × Int) (bey : Int → Bool) (ld : Int → Int → Bool) : Nat → Int → Option Int → List Int → List Int × Int
 | 0, x, _, l => if bey x = true then (l, 0) else ([], 14)
 | k + 1, x, ah, l => if bey x = true then (l, 0) else if okA ld ah x = false then ([], 11) else if (N x).2 ≠ 0 then ([], (N x).2) else folF N bey ld k (N x).1 (some x) (l ++ [x])
theorem fol_bey {N : Int → Int × Int} {bey : Int → Bool} {ld : Int → Int → Bool} {k : Nat} {x : Int} {ah : Option Int} {l : List Int} (h : bey x = true) : folF N bey ld k x ah l = (l, 0) := by
 cases k <;> (unfold folF; rw [if_pos h])
theorem fol_0 {N : Int → Int × Int} {bey : Int → Bool} {ld : Int → Int → Bool} {x : Int} {ah : Option Int} {l : List Int} (h : bey x = false) : folF N bey ld 0 x ah l = ([], 14) := by
 unfold folF; rw [if_neg (by rw [h]; decide)]
theorem fol_s {N : Int → Int × Int} {bey : Int → Bool} {ld : Int → Int → Bool} {k : Nat} {x : Int} {ah : Option Int} {l : List Int} (h : bey x = false) : folF N bey ld (k + 1) x ah l = if okA ld ah x = false then ([], 11) else if (N x).2 ≠ 0 then ([], (N x).2) else folF N bey ld k (N x).1 (some x) (l ++ [x]) := by
 conv => lhs; unfold folF
 rw [if_neg (by rw [h]; decide)]
theorem course_eq (i u j v d : Int) (w : World) : (Op.equalIn 10000 89 (.agg #[vi ki i, vi ki u, vi ki j, vi ki v, vi ki d]) (.agg #[vi ki 0, vi ki 0, vi ki 0, vi ki 0, vi ki 0])).run Tryz.prog w = .ok (decide (i = 0) && (decide (u = 0) && (decide (j = 0) && (decide (v = 0) && decide (d = 0))))) w := by
 rw [run_equalIn_struct w 9999 89 _ _ (by kernel_rfl) (by kernel_rfl)]
 go_simp
 simp only [ite_okS]
 congr 1
 rw [Bool.eq_iff_iff]
 simp only [Bool.and_eq_true, decide_eq_true_eq, and_true]
theorem fol_inf1 (K : Nat) (bv : Value) (i u bi bu j M D U m : Int) (h : i ≠ 0)
  (w : World) :
  Calls Tryz.prog 19 #[.agg #[vi ki i, vi ki u], .agg #[vi ki bi, vi ki bu], .agg #[vi ki j, vi ki M, vi ki D, vi ki U], vi ki m, .func (.func K) #[bv] #[]] w fun r' w' => r' = zr (.tuple #[.slice none 0 0, vi ki 10]) ∧ Below w.heap.size w w' := by
 have K0 := bsn3 w [vi ki i, vi ki u] 36 [vi ki bi, vi ki bu] 36 [vi ki j, vi ki M, vi ki D, vi ki U] 38
 go_enter Tryz.func19, Tryz.ntmps19
 go_wp2
 go_ret2
 exact ⟨rfl, K0.out.1⟩
theorem fol_inf2 (K : Nat) (bv : Value) (i u bi bu j M D U m : Int) (h : j ≠ 0)
  (w : World) :
  Calls Tryz.prog 19 #[.agg #[vi ki 0, vi ki u], .agg #[vi ki bi, vi ki bu], .agg #[vi ki j, vi ki M, vi ki D, vi ki U], vi ki m, .func (.func K) #[bv] #[]] w fun r' w' => r' = zr (.tuple #[.slice none 0 0, vi ki 10]) ∧ Below w.heap.size w w' := by
 have K0 := bsn3 w [vi ki 0, vi ki u] 36 [vi ki bi, vi ki bu] 36 [vi ki j, vi ki M, vi ki D, vi ki U] 38
 go_enter Tryz.func19, Tryz.ntmps19
 go_wp2
 go_ret2
 exact ⟨rfl, K0.out.1⟩
theorem fol_zero (K : Nat) (bv : Value) (u bi bu M D U m : Int)
  (SG : Hid (∀ w : World, Calls Tryz.prog 37 #[.agg #[vi ki 0, vi ki M, vi ki D, vi ki U]] w fun r' w' => r' = zr (vi ki 0) ∧ Below w.heap.size w w'))
  (w : World) :
  Calls Tryz.prog 19 #[.agg #[vi ki 0, vi ki u], .agg #[vi ki bi, vi ki bu], .agg #[vi ki 0, vi ki M, vi ki D, vi ki U], vi ki m, .func (.func K) #[bv] #[]] w fun r' w' => r' = zr (.tuple #[.slice none 0 0, vi ki 11]) ∧ Below w.heap.size w w' := by
 have K0 := bsn3 w [vi ki 0, vi ki u] 36 [vi ki bi, vi ki bu] 36 [vi ki 0, vi ki M, vi ki D, vi ki U] 38
 go_enter Tryz.func19, Tryz.ntmps19
 go_upto_region 3 with fail
 refine bs_to K0 ?_
 clear K0
 intro W0 K0
 go_cut [12] (fun v0 wx => ∃ nb, v0 = .pointer (some ⟨nb, 0, none⟩) ∧ Hid (BS w ((nb, [vi ki 0, vi ki u, vi ki bi, vi ki bu, vi ki 0]) :: [(w.heap.size + 2, [vi ki 0, vi ki M, vi ki D, vi ki U]), (w.heap.size + 1, [vi ki bi, vi ki bu]), (w.heap.size, [vi ki 0, vi ki u])]) wx ∧ (∀ x ∈ ([(w.heap.size + 2, [vi ki 0, vi ki M, vi ki D, vi ki U]), (w.heap.size + 1, [vi ki bi, vi ki bu]), (w.heap.size, [vi ki 0, vi ki u])] : List (Nat × List Value)), x.1 ≠ nb)))
 case first =>
  refine wp_region_held_drew (S := BS w [(w.heap.size + 2, [vi ki 0, vi ki M, vi ki D, vi ki U]), (w.heap.size + 1, [vi ki bi, vi ki bu]), (w.heap.size, [vi ki 0, vi ki u])]) (by kernel_rfl) K0.out.drew (fun hHeld => ?_)
  refine tk (v := ?_) 0 ⟨some 24, _, _, _, _, none⟩ rfl ?_ ?_
  case refine_2 => (intro w9 hSw; obtain ⟨l0_0, l0_1, l0_2, l0_3⟩ := (hSw.at (w.heap.size + 2) [vi ki 0, vi ki M, vi ki D, vi ki U] (by simp)).c4; obtain ⟨l1_0, l1_1⟩ := (hSw.at (w.heap.size + 1) [vi ki bi, vi ki bu] (by simp)).c2; obtain ⟨l2_0, l2_1⟩ := (hSw.at (w.heap.size) [vi ki 0, vi ki u] (by simp)).c2; clear hSw; go_simp; try with_reducible rfl)
  simp only [za, zb, zc, zd]
  refine tk (v := ?_) 1 ⟨some 25, _, _, _, _, none⟩ rfl ?_ ?_
  case refine_2 => (intro w9 hSw; obtain ⟨l0_0, l0_1, l0_2, l0_3⟩ := (hSw.at (w.heap.size + 2) [vi ki 0, vi ki M, vi ki D, vi ki U] (by simp)).c4; obtain ⟨l1_0, l1_1⟩ := (hSw.at (w.heap.size + 1) [vi ki bi, vi ki bu] (by simp)).c2; obtain ⟨l2_0, l2_1⟩ := (hSw.at (w.heap.size) [vi ki 0, vi ki u] (by simp)).c2; clear hSw; go_simp; try with_reducible rfl)
  simp only [za, zb, zc, zd]
  refine tk (v := ?_) 2 ⟨some 26, _, _, _, _, none⟩ rfl ?_ ?_
  case refine_2 => (intro w9 hSw; obtain ⟨l0_0, l0_1, l0_2, l0_3⟩ := (hSw.at (w.heap.size + 2) [vi ki 0, vi ki M, vi ki D, vi ki U] (by simp)).c4; obtain ⟨l1_0, l1_1⟩ := (hSw.at (w.heap.size + 1) [vi ki bi, vi ki bu] (by simp)).c2; obtain ⟨l2_0, l2_1⟩ := (hSw.at (w.heap.size) [vi ki 0, vi ki u] (by simp)).c2; clear hSw; go_simp; try with_reducible rfl)
  simp only [za, zb, zc, zd]
  refine wpAnyH_ready (rs := [3, 5]) (by kernel_rfl) (by simp) (AllReadyH.cons (o := ⟨some 27, _, _, _, _, none⟩) rfl (fun K hK => ?_) (AllReadyH.cons (o := ⟨some 12, _, _, _, _, none⟩) rfl (fun K hK => ?_) AllReadyH.nil))
  ·
   go_simp
   refine (SG.out _).mono ?_
   rintro e v1 ⟨rfl, hb1⟩
   refine hK.out _ _ (hHeld.below hb1) (fun hHeld => ?_)
   try (have HN2 := HN.out.below hb1; clear HN; have HN : Hid (NB _ _ _ _ _) := HN2; clear HN2)
   clear hK K hb1
   refine tks 4 ⟨some 28, _, _, _, _, none⟩ rfl ?_
   simp only [za, zb, zc, zd]
   refine rd 5 ⟨some 12, _, _, _, _, none⟩ rfl (fun K hK => ?_)
   go_simp
   have hH0 := hHeld
   refine hK.out _ _ (hHeld.alloc _) (fun hHeld => ?_)
   have HN : Hid (NB _ _ _ _ [vi ki 0, vi ki 0, vi ki 0, vi ki 0, vi ki 0]) := hH0.nb hHeld
   clear hK K hH0
   refine rd 6 ⟨none, _, _, _, _, none⟩ rfl (fun K hK => ?_)
   refine (if_pos (by kernel_rfl)).mpr (wp_store_mid 89 _ _ rfl _ 0 #[vi ki 0, vi ki u, vi ki bi, vi ki bu, vi ki 0] rfl rfl HN.out.1.there (by kernel_rfl) (by simp [Value.oneCell']) (hK.out _ _ (hHeld.off HN.out.2.1 HN.out.2.2 _) (fun hHeld => ?_)))
   have HN2 : Hid (BS w ((_, [vi ki 0, vi ki u, vi ki bi, vi ki bu, vi ki 0]) :: [(w.heap.size + 2, [vi ki 0, vi ki M, vi ki D, vi ki U]), (w.heap.size + 1, [vi ki bi, vi ki bu]), (w.heap.size, [vi ki 0, vi ki u])]) _ ∧ _) := ⟨⟨hHeld.1, fun x hx => by rcases List.mem_cons.1 hx with rfl | hx; exact ⟨HN.out.2.1, HN.out.1.setAll _ rfl⟩; exact hHeld.2 x hx⟩, HN.out.2.2⟩
   clear hK K HN
   refine wpAnyH_done (by kernel_rfl) ?_ _
   go_wp2_with fail
   go_meet
   case rel => exact ⟨_, rfl, HN2.out⟩
  ·
   go_simp
   have hH0 := hHeld
   refine hK.out _ _ (hHeld.alloc _) (fun hHeld => ?_)
   have HN : Hid (NB _ _ _ _ [vi ki 0, vi ki 0, vi ki 0, vi ki 0, vi ki 0]) := hH0.nb hHeld
   clear hK K hH0
   refine rd 3 ⟨some 27, _, _, _, _, none⟩ rfl (fun K hK => ?_)
   go_simp
   refine (SG.out _).mono ?_
   rintro e v5 ⟨rfl, hb5⟩
   refine hK.out _ _ (hHeld.below hb5) (fun hHeld => ?_)
   try (have HN2 := HN.out.below hb5; clear HN; have HN : Hid (NB _ _ _ _ _) := HN2; clear HN2)
   clear hK K hb5
   refine tks 4 ⟨some 28, _, _, _, _, none⟩ rfl ?_
   simp only [za, zb, zc, zd]
   refine rd 6 ⟨none, _, _, _, _, none⟩ rfl (fun K hK => ?_)
   refine (if_pos (by kernel_rfl)).mpr (wp_store_mid 89 _ _ rfl _ 0 #[vi ki 0, vi ki u, vi ki bi, vi ki bu, vi ki 0] rfl rfl HN.out.1.there (by kernel_rfl) (by simp [Value.oneCell']) (hK.out _ _ (hHeld.off HN.out.2.1 HN.out.2.2 _) (fun hHeld => ?_)))
   have HN2 : Hid (BS w ((_, [vi ki 0, vi ki u, vi ki bi, vi ki bu, vi ki 0]) :: [(w.heap.size + 2, [vi ki 0, vi ki M, vi ki D, vi ki U]), (w.heap.size + 1, [vi ki bi, vi ki bu]), (w.heap.size, [vi ki 0, vi ki u])]) _ ∧ _) := ⟨⟨hHeld.1, fun x hx => by rcases List.mem_cons.1 hx with rfl | hx; exact ⟨HN.out.2.1, HN.out.1.setAll _ rfl⟩; exact hHeld.2 x hx⟩, HN.out.2.2⟩
   clear hK K HN
   refine wpAnyH_done (by kernel_rfl) ?_ _
   go_wp2_with fail
   go_meet
   case rel => exact ⟨_, rfl, HN2.out⟩
 case rest =>
  obtain ⟨nb0, rfl, KK⟩ := hcut
  clear K0
  have K1 : Hid (BS w [(nb0, [vi ki 0, vi ki u, vi ki bi, vi ki bu, vi ki 0]), (w.heap.size + 2, [vi ki 0, vi ki M, vi ki D, vi ki U]), (w.heap.size + 1, [vi ki bi, vi ki bu]), (w.heap.size, [vi ki 0, vi ki u])] wc) := KK.out.1
  have ne1_0 : w.heap.size + 2 ≠ nb0 := KK.out.2 (w.heap.size + 2, [vi ki 0, vi ki M, vi ki D, vi ki U]) (by simp)
  have ne1_1 : w.heap.size + 1 ≠ nb0 := KK.out.2 (w.heap.size + 1, [vi ki bi, vi ki bu]) (by simp)
  have ne1_2 : w.heap.size ≠ nb0 := KK.out.2 (w.heap.size, [vi ki 0, vi ki u]) (by simp)
  clear KK
  obtain ⟨c1_0_0, c1_0_1, c1_0_2, c1_0_3, c1_0_4⟩ := (bo1 K1).c5
  obtain ⟨c1_1_0, c1_1_1, c1_1_2, c1_1_3⟩ := (bo2 K1).c4
  obtain ⟨c1_2_0, c1_2_1⟩ := (bo3 K1).c2
  obtain ⟨c1_3_0, c1_3_1⟩ := (bo4 K1).c2
  go_wp2
  go_ret2
  exact ⟨rfl, K1.out.1⟩
theorem fol_run (Ok : World → Prop) (hOk : Hid (∀ W V : World, Ok W → Below W.heap.size W V → Ok V)) (K : Nat) (bv : Value) (hE : ∀ args w, (callFunc K args).run Tryz.prog w = .ok (.enter K args) w) (N : Int → Int × Int) (bey : Int → Bool) (ld : Int → Int → Bool) (VL : Int → Prop) (u bi bu M D U d : Int) (m : Nat) (hm : m ≤ 1000) (hd : d ≠ 0) (hu : VL u) (LA : List Int) (EA : Int) (HA : Hid (folF N bey ld m u none [] = (LA, EA)))
  (NX : Hid (∀ x : Int, VL x → bey x = false → ∀ w : World, Ok w → Calls Tryz.prog K #[bv, .agg #[vi ki 0, vi ki x]] w fun r' w' => r' = zr (.tuple #[.agg #[vi ki 0, vi ki (N x).1], vi ki (N x).2]) ∧ Below w.heap.size w w'))
  (HV : Hid (∀ x : Int, VL x → bey x = false → (N x).2 = 0 → VL (N x).1))
  (BY : Hid (∀ x : Int, VL x → ∀ w : World, Ok w → Calls Tryz.prog 38 #[.agg #[vi ki 0, vi ki x, vi ki bi, vi ki bu, vi ki d]] w fun r' w' => r' = zr (.bool (bey x)) ∧ Below w.heap.size w w'))
  (LD : Hid (∀ q x : Int, VL q → VL x → ∀ w : World, Ok w → Calls Tryz.prog 39 #[.agg #[vi ki 0, vi ki q, vi ki bi, vi ki bu, vi ki d], .agg #[vi ki 0, vi ki x, vi ki bi, vi ki bu, vi ki d]] w fun r' w' => r' = zr (.bool (ld q x)) ∧ Below w.heap.size w w'))
  (SG : Hid (∀ w : World, Calls Tryz.prog 37 #[.agg #[vi ki 0, vi ki M, vi ki D, vi ki U]] w fun r' w' => r' = zr (vi ki d) ∧ Below w.heap.size w w'))
  (w : World) (HW : Hid (Ok w)) :
  Calls Tryz.prog 19 #[.agg #[vi ki 0, vi ki u], .agg #[vi ki bi, vi ki bu], .agg #[vi ki 0, vi ki M, vi ki D, vi ki U], vi ki (m : Int), .func (.func K) #[bv] #[]] w fun r' w' => ∃ v, r' = zr (.tuple #[v, vi ki EA]) ∧ Below w.heap.size w w' ∧ w'.ownsRow w.heap.size 36 2 v LA.length (cT LA) := by
 have K0 := bsn3 w [vi ki 0, vi ki u] 36 [vi ki bi, vi ki bu] 36 [vi ki 0, vi ki M, vi ki D, vi ki U] 38
 go_enter Tryz.func19, Tryz.ntmps19
 go_upto_region 3 with fail
 refine bs_to K0 ?_
 clear K0
 intro W0 K0
 go_cut [12] (fun v0 wx => ∃ nb, v0 = .pointer (some ⟨nb, 0, none⟩) ∧ Hid (BS w ((nb, [vi ki 0, vi ki u, vi ki bi, vi ki bu, vi ki d]) :: [(w.heap.size + 2, [vi ki 0, vi ki M, vi ki D, vi ki U]), (w.heap.size + 1, [vi ki bi, vi ki bu]), (w.heap.size, [vi ki 0, vi ki u])]) wx ∧ (∀ x ∈ ([(w.heap.size + 2, [vi ki 0, vi ki M, vi ki D, vi ki U]), (w.heap.size + 1, [vi ki bi, vi ki bu]), (w.heap.size, [vi ki 0, vi ki u])] : List (Nat × List Value)), x.1 ≠ nb)))
 case first =>
  refine wp_region_held_drew (S := BS w [(w.heap.size + 2, [vi ki 0, vi ki M, vi ki D, vi ki U]), (w.heap.size + 1, [vi ki bi, vi ki bu]), (w.heap.size, [vi ki 0, vi ki u])]) (by kernel_rfl) K0.out.drew (fun hHeld => ?_)
  refine tk (v := ?_) 0 ⟨some 24, _, _, _, _, none⟩ rfl ?_ ?_
  case refine_2 => (intro w9 hSw; obtain ⟨l0_0, l0_1, l0_2, l0_3⟩ := (hSw.at (w.heap.size + 2) [vi ki 0, vi ki M, vi ki D, vi ki U] (by simp)).c4; obtain ⟨l1_0, l1_1⟩ := (hSw.at (w.heap.size + 1) [vi ki bi, vi ki bu] (by simp)).c2; obtain ⟨l2_0, l2_1⟩ := (hSw.at (w.heap.size) [vi ki 0, vi ki u] (by simp)).c2; clear hSw; go_simp; try with_reducible rfl)
  simp only [za, zb, zc, zd]
  refine tk (v := ?_) 1 ⟨some 25, _, _, _, _, none⟩ rfl ?_ ?_
  case refine_2 => (intro w9 hSw; obtain ⟨l0_0, l0_1, l0_2, l0_3⟩ := (hSw.at (w.heap.size + 2) [vi ki 0, vi ki M, vi ki D, vi ki U] (by simp)).c4; obtain ⟨l1_0, l1_1⟩ := (hSw.at (w.heap.size + 1) [vi ki bi, vi ki bu] (by simp)).c2; obtain ⟨l2_0, l2_1⟩ := (hSw.at (w.heap.size) [vi ki 0, vi ki u] (by simp)).c2; clear hSw; go_simp; try with_reducible rfl)
  simp only [za, zb, zc, zd]
  refine tk (v := ?_) 2 ⟨some 26, _, _, _, _, none⟩ rfl ?_ ?_
  case refine_2 => (intro w9 hSw; obtain ⟨l0_0, l0_1, l0_2, l0_3⟩ := (hSw.at (w.heap.size + 2) [vi ki 0, vi ki M, vi ki D, vi ki U] (by simp)).c4; obtain ⟨l1_0, l1_1⟩ := (hSw.at (w.heap.size + 1) [vi ki bi, vi ki bu] (by simp)).c2; obtain ⟨l2_0, l2_1⟩ := (hSw.at (w.heap.size) [vi ki 0, vi ki u] (by simp)).c2; clear hSw; go_simp; try with_reducible rfl)
  simp only [za, zb, zc, zd]
  refine wpAnyH_ready (rs := [3, 5]) (by kernel_rfl) (by simp) (AllReadyH.cons (o := ⟨some 27, _, _, _, _, none⟩) rfl (fun K hK => ?_) (AllReadyH.cons (o := ⟨some 12, _, _, _, _, none⟩) rfl (fun K hK => ?_) AllReadyH.nil))
  ·
   go_simp
   refine (SG.out _).mono ?_
   rintro e v1 ⟨rfl, hb1⟩
   refine hK.out _ _ (hHeld.below hb1) (fun hHeld => ?_)
   try (have HN2 := HN.out.below hb1; clear HN; have HN : Hid (NB _ _ _ _ _) := HN2; clear HN2)
   clear hK K hb1
   refine tks 4 ⟨some 28, _, _, _, _, none⟩ rfl ?_
   simp only [za, zb, zc, zd]
   refine rd 5 ⟨some 12, _, _, _, _, none⟩ rfl (fun K hK => ?_)
   go_simp
   have hH0 := hHeld
   refine hK.out _ _ (hHeld.alloc _) (fun hHeld => ?_)
   have HN : Hid (NB _ _ _ _ [vi ki 0, vi ki 0, vi ki 0, vi ki 0, vi ki 0]) := hH0.nb hHeld
   clear hK K hH0
   refine rd 6 ⟨none, _, _, _, _, none⟩ rfl (fun K hK => ?_)
   refine (if_pos (by kernel_rfl)).mpr (wp_store_mid 89 _ _ rfl _ 0 #[vi ki 0, vi ki u, vi ki bi, vi ki bu, vi ki d] rfl rfl HN.out.1.there (by kernel_rfl) (by simp [Value.oneCell']) (hK.out _ _ (hHeld.off HN.out.2.1 HN.out.2.2 _) (fun hHeld => ?_)))
   have HN2 : Hid (BS w ((_, [vi ki 0, vi ki u, vi ki bi, vi ki bu, vi ki d]) :: [(w.heap.size + 2, [vi ki 0, vi ki M, vi ki D, vi ki U]), (w.heap.size + 1, [vi ki bi, vi ki bu]), (w.heap.size, [vi ki 0, vi ki u])]) _ ∧ _) := ⟨⟨hHeld.1, fun x hx => by rcases List.mem_cons.1 hx with rfl | hx; exact ⟨HN.out.2.1, HN.out.1.setAll _ rfl⟩; exact hHeld.2 x hx⟩, HN.out.2.2⟩
   clear hK K HN
   refine wpAnyH_done (by kernel_rfl) ?_ _
   go_wp2_with fail
   go_meet
   case rel => exact ⟨_, rfl, HN2.out⟩
  ·
   go_simp
   have hH0 := hHeld
   refine hK.out _ _ (hHeld.alloc _) (fun hHeld => ?_)
   have HN : Hid (NB _ _ _ _ [vi ki 0, vi ki 0, vi ki 0, vi ki 0, vi ki 0]) := hH0.nb hHeld
   clear hK K hH0
   refine rd 3 ⟨some 27, _, _, _, _, none⟩ rfl (fun K hK => ?_)
   go_simp
   refine (SG.out _).mono ?_
   rintro e v5 ⟨rfl, hb5⟩
   refine hK.out _ _ (hHeld.below hb5) (fun hHeld => ?_)
   try (have HN2 := HN.out.below hb5; clear HN; have HN : Hid (NB _ _ _ _ _) := HN2; clear HN2)
   clear hK K hb5
   refine tks 4 ⟨some 28, _, _, _, _, none⟩ rfl ?_
   simp only [za, zb, zc, zd]
   refine rd 6 ⟨none, _, _, _, _, none⟩ rfl (fun K hK => ?_)
   refine (if_pos (by kernel_rfl)).mpr (wp_store_mid 89 _ _ rfl _ 0 #[vi ki 0, vi ki u, vi ki bi, vi ki bu, vi ki d] rfl rfl HN.out.1.there (by kernel_rfl) (by simp [Value.oneCell']) (hK.out _ _ (hHeld.off HN.out.2.1 HN.out.2.2 _) (fun hHeld => ?_)))
   have HN2 : Hid (BS w ((_, [vi ki 0, vi ki u, vi ki bi, vi ki bu, vi ki d]) :: [(w.heap.size + 2, [vi ki 0, vi ki M, vi ki D, vi ki U]), (w.heap.size + 1, [vi ki bi, vi ki bu]), (w.heap.size, [vi ki 0, vi ki u])]) _ ∧ _) := ⟨⟨hHeld.1, fun x hx => by rcases List.mem_cons.1 hx with rfl | hx; exact ⟨HN.out.2.1, HN.out.1.setAll _ rfl⟩; exact hHeld.2 x hx⟩, HN.out.2.2⟩
   clear hK K HN
   refine wpAnyH_done (by kernel_rfl) ?_ _
   go_wp2_with fail
   go_meet
   case rel => exact ⟨_, rfl, HN2.out⟩
 case rest =>
  obtain ⟨nb0, rfl, KK⟩ := hcut
  clear K0
  have K1 : Hid (BS w [(nb0, [vi ki 0, vi ki u, vi ki bi, vi ki bu, vi ki d]), (w.heap.size + 2, [vi ki 0, vi ki M, vi ki D, vi ki U]), (w.heap.size + 1, [vi ki bi, vi ki bu]), (w.heap.size, [vi ki 0, vi ki u])] wc) := KK.out.1
  have ne1_0 : w.heap.size + 2 ≠ nb0 := KK.out.2 (w.heap.size + 2, [vi ki 0, vi ki M, vi ki D, vi ki U]) (by simp)
  have ne1_1 : w.heap.size + 1 ≠ nb0 := KK.out.2 (w.heap.size + 1, [vi ki bi, vi ki bu]) (by simp)
  have ne1_2 : w.heap.size ≠ nb0 := KK.out.2 (w.heap.size, [vi ki 0, vi ki u]) (by simp)
  clear KK
  obtain ⟨c1_0_0, c1_0_1, c1_0_2, c1_0_3, c1_0_4⟩ := (bo1 K1).c5
  obtain ⟨c1_1_0, c1_1_1, c1_1_2, c1_1_3⟩ := (bo2 K1).c4
  obtain ⟨c1_2_0, c1_2_1⟩ := (bo3 K1).c2
  obtain ⟨c1_3_0, c1_3_1⟩ := (bo4 K1).c2
  have hd0 : (d == 0) = false := by simpa using hd
  have HK : Hid (BS w [(nb0, [vi ki 0, vi ki u, vi ki bi, vi ki bu, vi ki d])] wc) := K1.out.perm (by intro x hx; simp only [List.mem_cons, List.not_mem_nil, or_false] at hx ⊢; simp [hx])
  have HS0 : Hid (FS w wc.heap.size wc.heap.size nb0 (ahC bi bu d none) [vi ki 0, vi ki u, vi ki bi, vi ki bu, vi ki d] (.slice none 0 0) 0 (cT []) (wc.alloc (.cells (ahC bi bu d none).toArray 89))) :=
   ⟨HK.out.new _ _ rfl, Ty.new _ _ _, World.ownsRow_nil _ _ _ _, (bo1 HK).1, Nat.le_refl _⟩
  have hbase : w.heap.size ≤ wc.heap.size := HK.out.1.size
  have EQ0 : ∀ w : World, (Op.equalIn 10000 89 (.agg #[vi ki 0, vi ki 0, vi ki 0, vi ki 0, vi ki 0]) (.agg #[vi ki 0, vi ki 0, vi ki 0, vi ki 0, vi ki 0])).run Tryz.prog w = .ok true w := fun w => course_eq 0 0 0 0 0 w
  have EQ1 : ∀ (q : Int) (w : World), (Op.equalIn 10000 89 (.agg #[vi ki 0, vi ki q, vi ki bi, vi ki bu, vi ki d]) (.agg #[vi ki 0, vi ki 0, vi ki 0, vi ki 0, vi ki 0])).run Tryz.prog w = .ok false w := fun q w => by
   rw [course_eq 0 q bi bu d w, decide_eq_false hd]; simp
  obtain ⟨i0, hi, hz0, hz1, hz2⟩ := info_parts infoSt
  go_wp2_with fail
  generalize wc.heap.size = base at *
  go_loopw [13, 14, 15] (fun lv ev av W => ∃ (i c p : Nat) (ao : Option Addr) (e x : Int) (ah : Option Int) (L : List Int), i ≤ m ∧ lv = .slice ao i c ∧ ev = vi ki e ∧ av = .pointer (some ⟨p, 0, none⟩) ∧ Hid (L.length = i) ∧ Hid (VL x) ∧ Hid (∀ q, ah = some q → VL q) ∧ Hid (folF N bey ld (m - i) x ah L = (LA, EA)) ∧ Hid (FS w base p nb0 (ahC bi bu d ah) [vi ki 0, vi ki x, vi ki bi, vi ki bu, vi ki d] (.slice ao i c) i (cT L) W)) (fun lv _ _ _ => m - (lenOf lv))
  case atStart => exact ⟨0, 0, base, none, 0, u, none, [], Nat.zero_le _, rfl, rfl, rfl, rfl, hu, (fun q h => by cases h), HA, HS0⟩
  case round =>
   clear HS0 HK K1 HA
   obtain ⟨i, c, p, ao, e, x, ah, L, him, rfl, rfl, rfl, HLn, HX, HQ, HA2, HF⟩ := hrel
   obtain ⟨n0, n1, n2, n3, n4⟩ := (HF.out.bs.tail.first).c5
   have HO : Hid (Ok wr) := hOk.out w wr HW.out HF.out.bs.1
   have BX : Hid (∀ w : World, Ok w → Calls Tryz.prog 38 #[.agg #[vi ki 0, vi ki x, vi ki bi, vi ki bu, vi ki d]] w fun r' w' => r' = zr (.bool (bey x)) ∧ Below w.heap.size w w') := BY.out x HX.out
   cases hbx : bey x
   ·rw [hbx] at BX
    go_wp2_with fail
    refine (BX.out _ HO.out).mono ?_
    rintro e1 W1 ⟨rfl, hb⟩
    have HF1 : Hid (FS w base p nb0 (ahC bi bu d ah) [vi ki 0, vi ki x, vi ki bi, vi ki bu, vi ki d] (.slice ao i c) i (cT L) W1) := HF.out.below hb
    clear hb HF HO n0 n1 n2 n3 n4 BX
    obtain ⟨n0, n1, n2, n3, n4⟩ := (HF1.out.bs.tail.first).c5
    by_cases hlt : i < m
    ·have hne : ¬ (i : Int) = (m : Int) := by omega
     obtain ⟨k, hk⟩ : ∃ k, m - i = k + 1 := ⟨m - i - 1, by omega⟩
     have HA3 : Hid ((if okA ld ah x = false then ([], 11) else if (N x).2 ≠ 0 then ([], (N x).2) else folF N bey ld k (N x).1 (some x) (L ++ [x])) = (LA, EA)) := by
      have h := HA2.out
      rw [hk, fol_s hbx] at h
      exact h
     have HKK : Hid (m - (i + 1) = k) := by show _ = _; omega
     have HBX : Hid (bey x = false) := hbx
     clear hk HA2 hbx
     cases ah with
     | none =>
      have HF2 : Hid (FS w base p nb0 [vi ki 0, vi ki 0, vi ki 0, vi ki 0, vi ki 0] [vi ki 0, vi ki x, vi ki bi, vi ki bu, vi ki d] (.slice ao i c) i (cT L) W1) := HF1
      clear HF1
      obtain ⟨q0, q1, q2, q3, q4⟩ := (HF2.out.bs.first).c5
      have HA4 : Hid ((if (N x).2 ≠ 0 then ([], (N x).2) else folF N bey ld k (N x).1 (some x) (L ++ [x])) = (LA, EA)) := by
       have h := HA3.out
       rw [show okA ld none x = true from rfl, if_neg (by decide)] at h
       exact h
      clear HA3
      go_upto_region 15 with (at_builtin; refine wpList_append_own _ rfl _ _ 48 rfl base 36 i0 (.agg #[vi ki 0, vi ki 0]) 2 16 Tryz.underlying48 hi hz0 hz1 hz2 rfl (by decide) (.slice ao i c) i (cT L) rfl (HF2.out.own.alloc _) ⟨W1.heap.size, 0, none⟩ 1 1 (cT [x]) rfl rfl (bxc (Bx.new W1 (cT [x]) 36)) (cT_one _) (by unfold maxLen; omega) (by omega) (by have := HF2.out.size; simp; omega) ?_; intro v' w3 hown' hgrow3 _)
      rw [← cT_app] at hown'
      have HG := HF2.out.grown _ hgrow3 hown'
      obtain ⟨ao2, c2, rfl, _, _⟩ := own_form HG.own
      have HF3 : Hid (FS w base p nb0 [vi ki 0, vi ki 0, vi ki 0, vi ki 0, vi ki 0] [vi ki 0, vi ki x, vi ki bi, vi ki bu, vi ki d] (.slice ao2 (i + 1) c2) (i + 1) (cT (L ++ [x])) w3) := HG
      clear HG hown' hgrow3 HF2 n0 n1 n2 n3 n4 q0 q1 q2 q3 q4
      obtain ⟨n0, n1, n2, n3, n4⟩ := (HF3.out.bs.tail.first).c5
      obtain ⟨q0, q1, q2, q3, q4⟩ := (HF3.out.bs.first).c5
      obtain ⟨z0, z1, z2, z3, z4⟩ := (HF3.out.bs.first).f5
      have HFs : Hid (FS w base p nb0 [vi ki 0, vi ki x, vi ki bi, vi ki bu, vi ki d] [vi ki 0, vi ki x, vi ki bi, vi ki bu, vi ki d] (.slice ao2 (i + 1) c2) (i + 1) (cT (L ++ [x])) (w3.setCells p 0 [vi ki 0, vi ki x, vi ki bi, vi ki bu, vi ki d])) := HF3.out.setP _ rfl
      simp only [World.setCells, Nat.zero_add, Nat.reduceAdd] at HFs
      go_upto_region 16 with fail
      refine gen_to (fun V => Hid (FS w base p nb0 [vi ki 0, vi ki x, vi ki bi, vi ki bu, vi ki d] [vi ki 0, vi ki x, vi ki bi, vi ki bu, vi ki d] (.slice ao2 (i + 1) c2) (i + 1) (cT (L ++ [x])) V)) HFs ?_
      clear HFs HF3 n0 n1 n2 n3 n4 q0 q1 q2 q3 q4 z0 z1 z2 z3 z4
      intro W4 HF4
      obtain ⟨n0, n1, n2, n3, n4⟩ := (HF4.out.bs.tail.first).c5
      have HO4 : Hid (Ok W4) := hOk.out w W4 HW.out HF4.out.bs.1
      have NX1 : Hid (∀ w : World, Ok w → Calls Tryz.prog K #[bv, .agg #[vi ki 0, vi ki x]] w fun r' w' => r' = zr (.tuple #[.agg #[vi ki 0, vi ki (N x).1], vi ki (N x).2]) ∧ Below w.heap.size w w') := NX.out x HX.out HBX.out
      have HV1 : Hid ((N x).2 = 0 → VL (N x).1) := HV.out x HX.out HBX.out
      generalize N x = NN at *
      obtain ⟨V9, E9⟩ := NN
      go_wp2_with fail
      refine (NX1.out _ HO4.out).mono ?_
      rintro e5 W5 ⟨rfl, hb5⟩
      have HF5 : Hid (FS w base p nb0 [vi ki 0, vi ki x, vi ki bi, vi ki bu, vi ki d] [vi ki 0, vi ki x, vi ki bi, vi ki bu, vi ki d] (.slice ao2 (i + 1) c2) (i + 1) (cT (L ++ [x])) W5) := HF4.out.below hb5
      clear hb5 HF4 HO4 n0 n1 n2 n3 n4 NX1
      obtain ⟨n0, n1, n2, n3, n4⟩ := (HF5.out.bs.tail.first).c5
      obtain ⟨z0, z1, z2, z3, z4⟩ := (HF5.out.bs.tail.first).f5
      have HFs : Hid (FS w base p nb0 [vi ki 0, vi ki x, vi ki bi, vi ki bu, vi ki d] [vi ki 0, vi ki V9, vi ki bi, vi ki bu, vi ki d] (.slice ao2 (i + 1) c2) (i + 1) (cT (L ++ [x])) (W5.setCells nb0 0 [vi ki 0, vi ki V9])) := HF5.out.setN
      simp only [World.setCells, Nat.zero_add] at HFs
      go_upto_region 17 with fail
      refine gen_to (fun V => Hid (FS w base p nb0 [vi ki 0, vi ki x, vi ki bi, vi ki bu, vi ki d] [vi ki 0, vi ki V9, vi ki bi, vi ki bu, vi ki d] (.slice ao2 (i + 1) c2) (i + 1) (cT (L ++ [x])) V)) HFs ?_
      clear HFs HF5 n0 n1 n2 n3 n4 z0 z1 z2 z3 z4
      intro W6 HF6
      obtain ⟨q0, q1, q2, q3, q4⟩ := (HF6.out.bs.first).c5
      by_cases hE9 : E9 = 0
      ·subst hE9
       have HA5 : Hid (folF N bey ld k V9 (some x) (L ++ [x]) = (LA, EA)) := by
        have h := HA4.out
        rw [if_neg (by simp)] at h
        exact h
       have HFn : Hid (FS w base W6.heap.size nb0 [vi ki 0, vi ki x, vi ki bi, vi ki bu, vi ki d] [vi ki 0, vi ki V9, vi ki bi, vi ki bu, vi ki d] (.slice ao2 (i + 1) c2) (i + 1) (cT (L ++ [x])) (W6.alloc (.cells ([vi ki 0, vi ki x, vi ki bi, vi ki bu, vi ki d] : List Value).toArray 89))) := HF6.out.newP
       clear HF6
       go_wp2_with fail
       go_roundw
       case rel => exact ⟨i + 1, c2, W6.heap.size, ao2, 0, V9, some x, L ++ [x], hlt, rfl, rfl, rfl, by show _ = _; rw [List.length_append, HLn.out]; rfl, HV1.out rfl, (fun q9 h9 => by cases h9; exact HX.out), by rw [HKK.out]; exact HA5, HFn⟩
       case measure => simp [lenOf]; omega
      ·have HE : Hid (([], E9) = (LA, EA)) := by
        have h := HA4.out
        rw [if_pos hE9] at h
        exact h
       obtain ⟨rfl, rfl⟩ := Prod.mk.inj HE.out
       have HB : Hid (Below w.heap.size w W6) := HF6.out.bs.1
       have hE0 : (E9 != 0) = true := by simpa using hE9
       clear HE HA4 HF6
       go_wp2_with fail
       exact bodyPost_ret (v := .tuple #[.slice none 0 0, vi ki E9]) (by simp [results, Tryz.results19, go_sem]) rfl ⟨_, rfl, HB.out, World.ownsRow_nil _ _ _ _⟩
     | some q =>
      have HF2 : Hid (FS w base p nb0 [vi ki 0, vi ki q, vi ki bi, vi ki bu, vi ki d] [vi ki 0, vi ki x, vi ki bi, vi ki bu, vi ki d] (.slice ao i c) i (cT L) W1) := HF1
      clear HF1
      obtain ⟨q0, q1, q2, q3, q4⟩ := (HF2.out.bs.first).c5
      have HO : Hid (Ok W1) := hOk.out w W1 HW.out HF2.out.bs.1
      have LX : Hid (∀ w : World, Ok w → Calls Tryz.prog 39 #[.agg #[vi ki 0, vi ki q, vi ki bi, vi ki bu, vi ki d], .agg #[vi ki 0, vi ki x, vi ki bi, vi ki bu, vi ki d]] w fun r' w' => r' = zr (.bool (ld q x)) ∧ Below w.heap.size w w') := LD.out q x (HQ.out q rfl) HX.out
      cases hld : ld q x
      ·rw [hld] at LX
       have HE : Hid (([], 11) = (LA, EA)) := by
        have h := HA3.out
        rw [show okA ld (some q) x = ld q x from rfl, hld, if_pos rfl] at h
        exact h
       obtain ⟨rfl, rfl⟩ := Prod.mk.inj HE.out
       clear HE HA3 hld
       go_wp2_with fail
       refine (LX.out _ HO.out).mono ?_
       rintro e2 W2 ⟨rfl, hb⟩
       have HF3 := HF2.out.below hb
       have HB : Hid (Below w.heap.size w W2) := HF3.bs.1
       clear hb HF3 n0 n1 n2 n3 n4 q0 q1 q2 q3 q4
       go_wp2_with fail
       exact bodyPost_ret (v := .tuple #[.slice none 0 0, vi ki 11]) (by simp [results, Tryz.results19, go_sem]) rfl ⟨_, rfl, HB.out, World.ownsRow_nil _ _ _ _⟩
      ·rw [hld] at LX
       have HA4 : Hid ((if (N x).2 ≠ 0 then ([], (N x).2) else folF N bey ld k (N x).1 (some x) (L ++ [x])) = (LA, EA)) := by
        have h := HA3.out
        rw [show okA ld (some q) x = ld q x from rfl, hld, if_neg (by decide)] at h
        exact h
       clear HA3 hld
       go_wp2_with fail
       refine (LX.out _ HO.out).mono ?_
       rintro e2 W2 ⟨rfl, hb⟩
       have HF3 : Hid (FS w base p nb0 [vi ki 0, vi ki q, vi ki bi, vi ki bu, vi ki d] [vi ki 0, vi ki x, vi ki bi, vi ki bu, vi ki d] (.slice ao i c) i (cT L) W2) := HF2.out.below hb
       clear hb HF2 n0 n1 n2 n3 n4 q0 q1 q2 q3 q4 HO LX
       have HF2 := HF3
       clear HF3
       obtain ⟨n0, n1, n2, n3, n4⟩ := (HF2.out.bs.tail.first).c5
       obtain ⟨q0, q1, q2, q3, q4⟩ := (HF2.out.bs.first).c5
       go_upto_region 15 with (at_builtin; refine wpList_append_own _ rfl _ _ 48 rfl base 36 i0 (.agg #[vi ki 0, vi ki 0]) 2 16 Tryz.underlying48 hi hz0 hz1 hz2 rfl (by decide) (.slice ao i c) i (cT L) rfl (HF2.out.own.alloc _) ⟨W2.heap.size, 0, none⟩ 1 1 (cT [x]) rfl rfl (bxc (Bx.new W2 (cT [x]) 36)) (cT_one _) (by unfold maxLen; omega) (by omega) (by have := HF2.out.size; simp; omega) ?_; intro v' w3 hown' hgrow3 _)
       rw [← cT_app] at hown'
       have HG := HF2.out.grown _ hgrow3 hown'
       obtain ⟨ao2, c2, rfl, _, _⟩ := own_form HG.own
       have HF3 : Hid (FS w base p nb0 [vi ki 0, vi ki q, vi ki bi, vi ki bu, vi ki d] [vi ki 0, vi ki x, vi ki bi, vi ki bu, vi ki d] (.slice ao2 (i + 1) c2) (i + 1) (cT (L ++ [x])) w3) := HG
       clear HG hown' hgrow3 HF2 n0 n1 n2 n3 n4 q0 q1 q2 q3 q4
       obtain ⟨n0, n1, n2, n3, n4⟩ := (HF3.out.bs.tail.first).c5
       obtain ⟨q0, q1, q2, q3, q4⟩ := (HF3.out.bs.first).c5
       obtain ⟨z0, z1, z2, z3, z4⟩ := (HF3.out.bs.first).f5
       have HFs : Hid (FS w base p nb0 [vi ki 0, vi ki x, vi ki bi, vi ki bu, vi ki d] [vi ki 0, vi ki x, vi ki bi, vi ki bu, vi ki d] (.slice ao2 (i + 1) c2) (i + 1) (cT (L ++ [x])) (w3.setCells p 0 [vi ki 0, vi ki x, vi ki bi, vi ki bu, vi ki d])) := HF3.out.setP _ rfl
       simp only [World.setCells, Nat.zero_add, Nat.reduceAdd] at HFs
       go_upto_region 16 with fail
       refine gen_to (fun V => Hid (FS w base p nb0 [vi ki 0, vi ki x, vi ki bi, vi ki bu, vi ki d] [vi ki 0, vi ki x, vi ki bi, vi ki bu, vi ki d] (.slice ao2 (i + 1) c2) (i + 1) (cT (L ++ [x])) V)) HFs ?_
       clear HFs HF3 n0 n1 n2 n3 n4 q0 q1 q2 q3 q4 z0 z1 z2 z3 z4
       intro W4 HF4
       obtain ⟨n0, n1, n2, n3, n4⟩ := (HF4.out.bs.tail.first).c5
       have HO4 : Hid (Ok W4) := hOk.out w W4 HW.out HF4.out.bs.1
       have NX1 : Hid (∀ w : World, Ok w → Calls Tryz.prog K #[bv, .agg #[vi ki 0, vi ki x]] w fun r' w' => r' = zr (.tuple #[.agg #[vi ki 0, vi ki (N x).1], vi ki (N x).2]) ∧ Below w.heap.size w w') := NX.out x HX.out HBX.out
       have HV1 : Hid ((N x).2 = 0 → VL (N x).1) := HV.out x HX.out HBX.out
       generalize N x = NN at *
       obtain ⟨V9, E9⟩ := NN
       go_wp2_with fail
       refine (NX1.out _ HO4.out).mono ?_
       rintro e5 W5 ⟨rfl, hb5⟩
       have HF5 : Hid (FS w base p nb0 [vi ki 0, vi ki x, vi ki bi, vi ki bu, vi ki d] [vi ki 0, vi ki x, vi ki bi, vi ki bu, vi ki d] (.slice ao2 (i + 1) c2) (i + 1) (cT (L ++ [x])) W5) := HF4.out.below hb5
       clear hb5 HF4 HO4 n0 n1 n2 n3 n4 NX1
       obtain ⟨n0, n1, n2, n3, n4⟩ := (HF5.out.bs.tail.first).c5
       obtain ⟨z0, z1, z2, z3, z4⟩ := (HF5.out.bs.tail.first).f5
       have HFs : Hid (FS w base p nb0 [vi ki 0, vi ki x, vi ki bi, vi ki bu, vi ki d] [vi ki 0, vi ki V9, vi ki bi, vi ki bu, vi ki d] (.slice ao2 (i + 1) c2) (i + 1) (cT (L ++ [x])) (W5.setCells nb0 0 [vi ki 0, vi ki V9])) := HF5.out.setN
       simp only [World.setCells, Nat.zero_add] at HFs
       go_upto_region 17 with fail
       refine gen_to (fun V => Hid (FS w base p nb0 [vi ki 0, vi ki x, vi ki bi, vi ki bu, vi ki d] [vi ki 0, vi ki V9, vi ki bi, vi ki bu, vi ki d] (.slice ao2 (i + 1) c2) (i + 1) (cT (L ++ [x])) V)) HFs ?_
       clear HFs HF5 n0 n1 n2 n3 n4 z0 z1 z2 z3 z4
       intro W6 HF6
       obtain ⟨q0, q1, q2, q3, q4⟩ := (HF6.out.bs.first).c5
       by_cases hE9 : E9 = 0
       ·subst hE9
        have HA5 : Hid (folF N bey ld k V9 (some x) (L ++ [x]) = (LA, EA)) := by
         have h := HA4.out
         rw [if_neg (by simp)] at h
         exact h
        have HFn : Hid (FS w base W6.heap.size nb0 [vi ki 0, vi ki x, vi ki bi, vi ki bu, vi ki d] [vi ki 0, vi ki V9, vi ki bi, vi ki bu, vi ki d] (.slice ao2 (i + 1) c2) (i + 1) (cT (L ++ [x])) (W6.alloc (.cells ([vi ki 0, vi ki x, vi ki bi, vi ki bu, vi ki d] : List Value).toArray 89))) := HF6.out.newP
        clear HF6
        go_wp2_with fail
        go_roundw
        case rel => exact ⟨i + 1, c2, W6.heap.size, ao2, 0, V9, some x, L ++ [x], hlt, rfl, rfl, rfl, by show _ = _; rw [List.length_append, HLn.out]; rfl, HV1.out rfl, (fun q9 h9 => by cases h9; exact HX.out), by rw [HKK.out]; exact HA5, HFn⟩
        case measure => simp [lenOf]; omega
       ·have HE : Hid (([], E9) = (LA, EA)) := by
         have h := HA4.out
         rw [if_pos hE9] at h
         exact h
        obtain ⟨rfl, rfl⟩ := Prod.mk.inj HE.out
        have HB : Hid (Below w.heap.size w W6) := HF6.out.bs.1
        have hE0 : (E9 != 0) = true := by simpa using hE9
        clear HE HA4 HF6
        go_wp2_with fail
        exact bodyPost_ret (v := .tuple #[.slice none 0 0, vi ki E9]) (by simp [results, Tryz.results19, go_sem]) rfl ⟨_, rfl, HB.out, World.ownsRow_nil _ _ _ _⟩
    ·have hne : (i : Int) = (m : Int) := by omega
     have HE : Hid (([], 14) = (LA, EA)) := by
      have h := HA2.out
      rw [show m - i = 0 by omega, fol_0 hbx] at h
      exact h
     obtain ⟨rfl, rfl⟩ := Prod.mk.inj HE.out
     have HB : Hid (Below w.heap.size w W1) := HF1.out.bs.1
     clear HE HA2 hbx
     go_wp2_with fail
     exact bodyPost_ret (v := .tuple #[.slice none 0 0, vi ki 14]) (by simp [results, Tryz.results19, go_sem]) rfl ⟨_, rfl, HB.out, World.ownsRow_nil _ _ _ _⟩
   ·rw [hbx] at BX
    have HE : Hid ((L, 0) = (LA, EA)) := by
     have h := HA2.out
     rw [fol_bey hbx] at h
     exact h
    obtain ⟨rfl, rfl⟩ := Prod.mk.inj HE.out
    clear HE HA2 hbx
    go_wp2_with fail
    refine (BX.out _ HO.out).mono ?_
    rintro e1 W1 ⟨rfl, hb⟩
    have HF1 : Hid (FS w base p nb0 (ahC bi bu d ah) [vi ki 0, vi ki x, vi ki bi, vi ki bu, vi ki d] (.slice ao i c) i (cT L) W1) := HF.out.below hb
    clear hb HF HO n0 n1 n2 n3 n4 BX
    go_wp2_with fail
    exact bodyPost_ret (v := .tuple #[.slice ao i c, vi ki 0]) (by simp [results, Tryz.results19, go_sem]) rfl ⟨_, rfl, HF1.out.bs.1, by rw [HLn.out]; exact own_mono HF1.out.own hbase⟩
structure TrR where
 at_ : Int
 off : Int
 dst : Bool
 ab : ByteArray
def trC (x : TrR) : List Value := [vi ki x.at_, vi ki x.off, .bool x.dst, .string x.ab]
def trCs (l : List TrR) : List Value := l.flatMap trC
def zTr : TrR := ⟨0, 0, false, ⟨#[]⟩⟩
theorem trCs_app (a b : List TrR) : trCs (a ++ b) = trCs a ++ trCs b := by simp [trCs]
theorem trCs_cons (x : TrR) (b : List TrR) : trCs (x :: b) = trC x ++ trCs b := by simp [trCs]
theorem trCs_len (l : List TrR) : (trCs l).length = l.length * 4 := by
 induction l with
 | nil => rfl
 | cons x l ih => rw [trCs_cons, List.length_append, ih]; simp [trC]; omega
theorem trCs_one (l : List TrR) : ∀ u ∈ trCs l, u.oneCell' = true := by
 intro u hu
 simp only [trCs, List.mem_flatMap] at hu
 obtain ⟨x, _, hu⟩ := hu
 simp only [trC, List.mem_cons, List.not_mem_nil, or_false] at hu
 rcases hu with rfl | rfl | rfl | rfl <;> rfl
theorem trCs_get (D R : List TrR) (x : TrR) (i : Nat) (hi : i < 4) : (trCs (D ++ x :: R))[D.length * 4 + i]? = (trC x)[i]? := by
 rw [trCs_app, List.getElem?_append_right (by rw [trCs_len]; omega), trCs_len, show D.length * 4 + i - D.length * 4 = i by omega, trCs_cons, List.getElem?_append_left (by simpa [trC] using hi)]
namespace Zm
def Rises : List Int → Prop
 | [] => True
 | [_] => True
 | a :: b :: l => a < b ∧ Rises (b :: l)
theorem Rises.tail {a : Int} {l : List Int} (h : Rises (a :: l)) : Rises l := by
 cases l with
 | nil => trivial
 | cons b l => exact h.2
theorem Rises.head_lt {a : Int} {l : List Int} (h : Rises (a :: l)) : ∀ x ∈ l, a < x := by
 induction l generalizing a with
 | nil => intro x hx; cases hx
 | cons b l ih =>
  intro x hx
  rcases List.mem_cons.1 hx with rfl | hx
  ·exact h.1
  ·exact Int.lt_trans h.1 (ih h.2 x hx)
def cntLe (x : Int) : List Int → Nat
 | [] => 0
 | a :: l => if a ≤ x then cntLe x l + 1 else 0
theorem cntLe_le (x : Int) (l : List Int) : cntLe x l ≤ l.length := by
 induction l with
 | nil => exact Nat.le_refl _
 | cons a l ih => unfold cntLe; split; exact Nat.succ_le_succ ih; exact Nat.zero_le _
theorem cntLe_iff {x : Int} {l : List Int} (h : Rises l) : ∀ (k : Nat) (a : Int), l[k]? = some a → (a ≤ x ↔ k < cntLe x l) := by
 induction l with
 | nil => intro k a e; simp at e
 | cons b l ih =>
  intro k a e
  unfold cntLe
  cases k with
  | zero =>
   simp only [List.getElem?_cons_zero, Option.some.injEq] at e
   subst e
   split <;> omega
  | succ k =>
   simp only [List.getElem?_cons_succ] at e
   split
   ·rw [ih h.tail k a e]; omega
   ·have hm : a ∈ l := List.mem_of_getElem? e
    have := h.head_lt a hm
    omega
theorem all_behind {α : Type} (f : α → Int) (a : Int) : ∀ (l : List α), (∀ x ∈ l, a < f x) → ∀ b, Rises (l.map f) → l.takeWhile (fun x => decide (f x ≤ b)) = l.filter (fun x => decide (a < f x) && decide (f x ≤ b))
 | [], _, _, _ => rfl
 | x :: l, h, b, hr => by
  have hx := h x List.mem_cons_self
  have ih := all_behind f a l (fun y hy => h y (List.mem_cons_of_mem _ hy)) b hr.tail
  by_cases k : f x ≤ b
  ·rw [List.takeWhile_cons_of_pos (by simpa using k), List.filter_cons_of_pos (by simp [hx, k]), ih]
  ·rw [List.takeWhile_cons_of_neg (by simpa using k), List.filter_cons_of_neg (by simp [k])]
   symm
   rw [List.filter_eq_nil_iff]
   intro y hy
   have := hr.head_lt (f y) (List.mem_map_of_mem hy)
   simp
   omega
theorem drop_take {α : Type} (f : α → Int) (a b : Int) : ∀ (l : List α), Rises (l.map f) → (l.drop (cntLe a (l.map f))).takeWhile (fun x => decide (f x ≤ b)) = l.filter (fun x => decide (a < f x) && decide (f x ≤ b))
 | [], _ => rfl
 | x :: l, hr => by
  by_cases k : f x ≤ a
  ·rw [show cntLe a ((x :: l).map f) = cntLe a (l.map f) + 1 from if_pos k, List.drop_succ_cons, drop_take f a b l hr.tail, List.filter_cons_of_neg (by simp; omega)]
  ·rw [show cntLe a ((x :: l).map f) = 0 from if_neg k, List.drop_zero]
   refine all_behind f a (x :: l) (fun y hy => ?_) b hr
   rcases List.mem_cons.1 hy with rfl | hy
   ·omega
   ·have := hr.head_lt (f y) (List.mem_map_of_mem hy)
    omega
structure St where
 (a b o : Int)
def strs (a e o : Int) : List (Int × Int) → List St
 | [] => [⟨a, e, o⟩]
 | c :: l => ⟨a, c.1, o⟩ :: strs c.1 e c.2 l
def less (x : Int) (s : St) : Prop := s.b ≤ x - s.o
def says (x : Int) (s : St) : Prop := s.a ≤ x - s.o ∧ x - s.o < s.b
instance (x : Int) (s : St) : Decidable (less x s) := by unfold less; infer_instance
instance (x : Int) (s : St) : Decidable (says x s) := by unfold says; infer_instance
structure Gr where
 (n f l : Int)
def Gr.more (g : Gr) (at_ : Int) : Gr := ⟨g.n + 1, if g.n = 0 then at_ else g.f, at_⟩
def pGo (x : Int) : List St → Gr × Gr → Gr × Gr
 | [], g => g
 | s :: r, (gl, gs) => pGo x r (if less x s then (gl.more (x - s.o), gs) else if says x s then (gl, gs.more (x - s.o)) else (gl, gs))
def rng (a : Int) : Nat → List Int
 | 0 => []
 | n + 1 => a :: rng (a + 1) n
def Up (A B : Int) (g : Int → Int) : Prop := ∀ i j, A ≤ i → i < j → j ≤ B → g i < g j
theorem Up.le {A B : Int} {g : Int → Int} (h : Up A B g) {i j : Int} (hi : A ≤ i) (k : i ≤ j) (hj : j ≤ B) : g i ≤ g j := by
 rcases Int.lt_or_eq_of_le k with k | k
 ·exact Int.le_of_lt (h i j hi k hj)
 ·rw [k]; exact Int.le_refl _
end Zm
open Go.RowKit
namespace Sr
def Bx (W : World) (b : Nat) (l : List Value) : Prop := b < W.heap.size ∧ ∀ i v, l[i]? = some v → W.cell? ⟨b, i, none⟩ = some v ∧ W.frozen? ⟨b, i, none⟩ = false
theorem Bx.below {W W' : World} {b : Nat} {l : List Value} (h : Bx W b l) (hb : Below W.heap.size W W') : Bx W' b l :=
 ⟨Nat.lt_of_lt_of_le h.1 hb.size, fun i v e => ⟨(hb.cell (p := ⟨b, i, none⟩) h.1).trans (h.2 i v e).1, (hb.frozen (p := ⟨b, i, none⟩) h.1).trans (h.2 i v e).2⟩⟩
theorem Bx.alloc {W : World} {b : Nat} {l : List Value} (h : Bx W b l) (o : Obj) : Bx (W.alloc o) b l := h.below ((Below.refl _ W).alloc (Nat.le_refl _) o)
theorem Bx.new (w : World) (l : List Value) (t : TypeId) : Bx (w.alloc (.cells l.toArray t)) w.heap.size l :=
 ⟨by simp, fun i v e => ⟨by rw [World.cell?_alloc_at _ _ _ _ rfl]; simpa using e, by rw [World.frozen?_alloc_at _ _ _ _ rfl]⟩⟩
theorem Bx.newAt (w : World) (l : List Value) (t : TypeId) (b : Nat) (hb : w.heap.size = b) : Bx (w.alloc (.cells l.toArray t)) b l := hb ▸ Bx.new w l t
theorem Bx.c {W : World} {b : Nat} {l : List Value} (h : Bx W b l) (i : Nat) {v : Value} (e : l[i]? = some v) : W.cell? ⟨b, i, none⟩ = some v := (h.2 i v e).1
theorem Bx.f {W : World} {b : Nat} {l : List Value} (h : Bx W b l) (i : Nat) {v : Value} (e : l[i]? = some v) : W.frozen? ⟨b, i, none⟩ = false := (h.2 i v e).2
theorem below_setCells {w : World} {b : Nat} (hb : w.heap.size ≤ b) : ∀ (vs : List Value) (W : World) (i : Nat), Below w.heap.size w W → Below w.heap.size w (W.setCells b i vs)
 | [], _, _, h => h
 | v :: vs, W, i, h => below_setCells hb vs _ _ (h.setCell (p := ⟨b, i, none⟩) hb v)
theorem setCells_size (b : Nat) : ∀ (vs : List Value) (W : World) (i : Nat), (W.setCells b i vs).heap.size = W.heap.size
 | [], _, _ => rfl
 | v :: vs, W, i => by rw [World.setCells, setCells_size b vs]; simp
theorem setCells_off (b : Nat) (vs : List Value) (W : World) (i : Nat) (p : Addr) (h : p.block ≠ b) : (W.setCells b i vs).cell? p = W.cell? p :=
 World.cell?_setCells_out b vs i W p (fun e _ => absurd e h)
theorem Bx.there {W : World} {b : Nat} {l : List Value} (h : Bx W b l) : W.there b 0 l.length := fun j hj => by
 have := h.2 j l[j] (List.getElem?_eq_getElem hj)
 rw [Nat.zero_add]
 exact ⟨by rw [this.1]; rfl, this.2⟩
theorem Bx.rng {W : World} {b : Nat} {l : List Value} (h : Bx W b l) (p cs q : List Value) (e : l = p ++ (cs ++ q)) : W.rangeAt b p.length cs := fun j v hv => by
 refine (h.2 (p.length + j) v ?_).1
 have hj : j < cs.length := (List.getElem?_eq_some_iff.1 hv).1
 rw [e, List.getElem?_append_right (by omega), show p.length + j - p.length = j by omega, List.getElem?_append_left hj]
 exact hv
theorem Bx.all {W : World} {b : Nat} {l : List Value} (h : Bx W b l) : W.rangeAt b 0 l := fun j v hv => by rw [Nat.zero_add]; exact (h.2 j v hv).1
theorem Bx.setAll {W : World} {b : Nat} {l : List Value} (h : Bx W b l) (vs : List Value) (hl : l.length = vs.length) : Bx (W.setCells b 0 vs) b vs :=
 ⟨by rw [setCells_size]; exact h.1, fun i v e => by
  have hi := (List.getElem?_eq_some_iff.1 e).1
  refine ⟨?_, ?_⟩
  ·have := World.rangeAt_setCells_same W b 0 vs (hl ▸ h.there) i v e
   rwa [Nat.zero_add] at this
  ·rw [World.frozen?_setCells]; exact (h.2 i l[i] (List.getElem?_eq_getElem (by omega))).2⟩
theorem Bx.setOther {W : World} {b' b : Nat} {l : List Value} (h : Bx W b' l) (hb : b' ≠ b) (vs : List Value) (j : Nat := 0) : Bx (W.setCells b j vs) b' l :=
 ⟨by rw [setCells_size]; exact h.1, fun i v e => ⟨by rw [setCells_off b vs _ _ _ hb]; exact (h.2 i v e).1, by rw [World.frozen?_setCells]; exact (h.2 i v e).2⟩⟩
theorem gen_any {P : Program} {md : Region.Mode} {ops : Array Oper} {Q : Exit → Act → World → Prop} {S : World → Prop} {fuel : Nat} {listed : Array Bool} {a : Act} {w1 : World} (T : World → Prop) (h : T w1)
  (k : ∀ w2, T w2 → wpAnyH P md ops Q S fuel listed a w2) : wpAnyH P md ops Q S fuel listed a w1 := k _ h
theorem gen_list {P : Program} {ops : Array Oper} {Q : Exit → Act → World → Prop} {rest : List Oper} {a : Act} {w1 : World} (T : World → Prop) (h : T w1) (k : ∀ w2, T w2 → wpList P ops Q rest a w2) : wpList P ops Q rest a w1 := k _ h
theorem gen_code {P : Program} {c : Code} {Q : Exit → Act → World → Prop} {a : Act} {w1 : World} (T : World → Prop) (h : T w1) (k : ∀ w2, T w2 → Code.wp P c Q a w2) : Code.wp P c Q a w1 := k _ h
end Sr
open Go.RowKit Sr
theorem tr_form {W : World} {base n : Nat} {v : Value} {L : List TrR} (h : W.ownsRow base 23 4 v n (trCs L)) (h0 : 0 < n) : ∃ g cap cur, v = .slice (some ⟨g, 0, none⟩) n cap ∧ base ≤ g ∧ W.heap[g]? = some (.cells cur 23 (0, 0)) ∧ n ≤ cap ∧ cap ≤ maxLen ∧ cur.size = cap * 4 ∧ cur.toList.take (n * 4) = trCs L := by
 rcases h.2 with ⟨_, z⟩ | ⟨g, cap, cur, a, b, c, d, e, f, i⟩
 ·omega
 ·exact ⟨g, cap, cur, a, b, c, d, e, f, i⟩
theorem tr_len {W : World} {base n : Nat} {v : Value} {xs : List Value} (h : W.ownsRow base 23 4 v n xs) : ∃ ao c, v = .slice ao n c := by
 rcases h.2 with ⟨a, z⟩ | ⟨g, cap, cur, a, _⟩
 ·subst z; exact ⟨none, 0, a⟩
 ·exact ⟨_, _, a⟩
theorem tr_cell {W : World} {b : Nat} {cs : Array Value} {t : TypeId} {fz : Nat × Nat} (h : W.heap[b]? = some (.cells cs t fz)) {i : Nat} {v : Value} (hi : cs[i]? = some v) : W.cell? ⟨b, i, none⟩ = some v := by simp [World.cell?, h, hi]
def TrAt (W : World) (sv : Value) (L : List TrR) : Prop := (∃ ao c, sv = .slice ao L.length c) ∧ L.length ≤ maxLen ∧ (L = [] ∨ ∃ g o c, sv = .slice (some ⟨g, o, none⟩) L.length c ∧ g < W.heap.size ∧ ∀ j u, (trCs L)[j]? = some u → W.cell? ⟨g, o + j, none⟩ = some u)
theorem TrAt.mv {W W' : World} {sv : Value} {L : List TrR} (h : TrAt W sv L) (k : Below W.heap.size W W') : TrAt W' sv L := by
 obtain ⟨h1, h2, h3⟩ := h
 refine ⟨h1, h2, h3.imp_right ?_⟩
 rintro ⟨g, o, c, e, hg, hc⟩
 exact ⟨g, o, c, e, Nat.lt_of_lt_of_le hg k.size, fun j u hj => (k.cell (p := ⟨g, o + j, none⟩) hg).trans (hc j u hj)⟩
theorem TrAt.of_own {W : World} {base : Nat} {sv : Value} {L : List TrR} (h : W.ownsRow base 23 4 sv L.length (trCs L)) : TrAt W sv L := by
 refine ⟨tr_len h, ?_, ?_⟩
 ·rcases h.2 with ⟨_, z⟩ | ⟨g, cap, cur, _, _, _, h1, h2, _⟩
  ·rw [z]; exact Nat.zero_le _
  ·omega
 ·rcases Nat.eq_zero_or_pos L.length with z | z
  ·exact .inl (List.eq_nil_of_length_eq_zero z)
  ·obtain ⟨g, cap, cur, rfl, _, hg, h1, h2, h3, h4⟩ := tr_form h z
   refine .inr ⟨g, 0, cap, rfl, (Array.getElem?_eq_some_iff.1 hg).1, fun j u hj => ?_⟩
   rw [Nat.zero_add]
   have hj9 := hj
   rw [← h4, List.getElem?_take] at hj9
   split at hj9
   ·exact tr_cell hg (by simpa using hj9)
   ·cases hj9
theorem TrAt.row {W : World} {sv : Value} {L : List TrR} (h : TrAt W sv L) {j : Nat} {x : TrR} (hj : L[j]? = some x) : ∃ g o c, sv = .slice (some ⟨g, o, none⟩) L.length c ∧ W.rangeAt g (o + j * 4) (trC x) := by
 have hlt := (List.getElem?_eq_some_iff.1 hj).1
 rcases h.2.2 with rfl | ⟨g, o, c, e, _, hc⟩
 ·simp at hlt
 ·refine ⟨g, o, c, e, fun i v hv => ?_⟩
  have hi : i < 4 := by have := (List.getElem?_eq_some_iff.1 hv).1; simpa [trC] using this
  have hsp : L = L.take j ++ x :: L.drop (j + 1) := by
   have h9 := List.take_append_drop j L
   rw [List.drop_eq_getElem_cons hlt, (List.getElem?_eq_some_iff.1 hj).2] at h9
   exact h9.symm
  have hg := trCs_get (L.take j) (L.drop (j + 1)) x i hi
  rw [← hsp, List.length_take, Nat.min_eq_left (by omega), hv] at hg
  have := hc _ _ hg
  rwa [← Nat.add_assoc] at this
theorem ret_b9 {a b : Bool} (h : a = b) : Ending.returned (.bool a) = zr (.bool b) := by rw [h]
theorem behind1_any (x : TrR) (t : Int) (w : World) :
  Calls Tryz.prog 125 #[.agg #[vi ki x.at_, vi ki x.off, .bool x.dst, .string x.ab], vi ki t] w fun r w' => r = zr (vi ki (if x.at_ ≤ t then -1 else 1)) ∧ Below w.heap.size w w' := by
 have HB : Hid (Below w.heap.size w (w.alloc (.cells #[vi ki x.at_, vi ki x.off, .bool x.dst, .string x.ab] 23))) := (Below.refl _ _).alloc (Nat.le_refl _) _
 by_cases h : x.at_ ≤ t
 ·rw [if_pos h]
  go_enter Tryz.func125, Tryz.ntmps125
  go_wp2
  go_ret
  exact ⟨rfl, HB.out⟩
 ·rw [if_neg h]
  go_enter Tryz.func125, Tryz.ntmps125
  go_wp2
  go_ret
  exact ⟨rfl, HB.out⟩
theorem bsearch_any (L : List TrR) (sv : Value) (t : Int) (hr : Zm.Rises (L.map (·.at_))) (h4 : L.length ≤ 4096) (w : World) (HT : Hid (TrAt w sv L)) :
  Calls Tryz.prog 124 #[sv, vi ki t, .func (.func 125) #[] #[]] w fun r w' => r = zr (.tuple #[vi ki (Zm.cntLe t (L.map (·.at_)) : Int), .bool false]) ∧ Below w.heap.size w w' := by
 obtain ⟨⟨ao, c, hsv⟩, hml, _⟩ := HT.out
 obtain ⟨n, hn⟩ : ∃ n, L.length = n := ⟨_, rfl⟩
 have hC := Zm.cntLe_iff (x := t) hr
 have hcl := Zm.cntLe_le t (L.map (·.at_))
 rw [List.length_map, hn] at hcl
 obtain ⟨C, hCd⟩ : ∃ C, C = Zm.cntLe t (L.map (·.at_)) := ⟨_, rfl⟩
 rw [← hCd] at hC hcl ⊢
 clear hCd hr
 rw [hn] at hsv hml h4
 subst hsv
 unfold maxLen at hml
 have HC : Hid (∀ (k : Nat) (x : TrR), L[k]? = some x → (x.at_ ≤ t ↔ k < C)) := fun k x hx => hC k x.at_ (by rw [List.getElem?_map, hx]; rfl)
 clear hC
 go_enter Tryz.func124, Tryz.ntmps124
 go_wp2_with fail
 go_loopw [9, 10] (fun iv jv wr => ∃ i j : Nat, i ≤ C ∧ C ≤ j ∧ j ≤ n ∧ iv = vi ki (i : Int) ∧ jv = vi ki (j : Int) ∧ Hid (Below w.heap.size w wr)) (fun iv jv _ => (intOf jv).toNat - (intOf iv).toNat)
 case atStart => exact ⟨0, n, Nat.zero_le _, hcl, Nat.le_refl _, rfl, rfl, Below.refl _ _⟩
 case round =>
  obtain ⟨i, j, hi, hj, hjn, rfl, rfl, HB⟩ := hrel
  by_cases hij : i < j
  ·obtain ⟨h, hh⟩ : ∃ h, h = (i + j) / 2 := ⟨_, rfl⟩
   have e1 : ((i : Int) + (j : Int)) / 2 = (h : Int) := by omega
   have b1 : i ≤ h := by omega
   have b2 : h < j := by omega
   obtain ⟨x, hx⟩ : ∃ x, L[h]? = some x := ⟨_, List.getElem?_eq_getElem (by omega)⟩
   obtain ⟨g, o, c', hsv, hrg⟩ := (HT.out.mv (HB.out.mono (Nat.le_refl _))).row hx
   rw [hn] at hsv
   simp only [Value.slice.injEq, true_and] at hsv
   obtain ⟨rfl, rfl⟩ := hsv
   have HRG : Hid (wr.rangeAt g (o + h * 4) (trC x)) := hrg
   have hx' := HC.out h x hx
   have CM : Hid (∀ w : World, Calls Tryz.prog 125 #[.agg #[vi ki x.at_, vi ki x.off, .bool x.dst, .string x.ab], vi ki t] w fun r w' => r = zr (vi ki (if x.at_ ≤ t then -1 else 1)) ∧ Below w.heap.size w w') := fun w => behind1_any x t w
   clear hrg hx hh
   by_cases hle : x.at_ ≤ t
   ·have hk := hx'.1 hle
    rw [if_pos hle] at CM
    clear hx'
    go_wp2_with (first | (refine wpList_load_mid rfl 23 _ rfl g (o + h * 4) rfl [vi ki x.at_, vi ki x.off, .bool x.dst, .string x.ab] _ HRG.out Tryz.underlying23 rfl (by kernel_rfl) ?_) | fail)
    refine (CM.out _).mono ?_
    rintro e v1 ⟨rfl, hb⟩
    have HB1 : Hid (Below w.heap.size w v1) := HB.out.trans (hb.mono HB.out.size)
    clear hb HRG CM
    go_wp2_with fail
    exact ⟨⟨h + 1, j, by omega, by omega, by omega, by simp, rfl, HB1⟩, by simp [intOf]; omega⟩
   ·have hk : ¬ h < C := fun k => hle (hx'.2 k)
    rw [if_neg hle] at CM
    clear hx'
    go_wp2_with (first | (refine wpList_load_mid rfl 23 _ rfl g (o + h * 4) rfl [vi ki x.at_, vi ki x.off, .bool x.dst, .string x.ab] _ HRG.out Tryz.underlying23 rfl (by kernel_rfl) ?_) | fail)
    refine (CM.out _).mono ?_
    rintro e v1 ⟨rfl, hb⟩
    have HB1 : Hid (Below w.heap.size w v1) := HB.out.trans (hb.mono HB.out.size)
    clear hb HRG CM
    go_wp2_with fail
    exact ⟨⟨i, h, by omega, by omega, by omega, rfl, rfl, HB1⟩, by simp [intOf]; omega⟩
  ·have e : i = C := by omega
   subst e
   by_cases hin : i < n
   ·obtain ⟨x, hx⟩ : ∃ x, L[i]? = some x := ⟨_, List.getElem?_eq_getElem (by omega)⟩
    obtain ⟨g, o, c', hsv, hrg⟩ := (HT.out.mv (HB.out.mono (Nat.le_refl _))).row hx
    rw [hn] at hsv
    simp only [Value.slice.injEq, true_and] at hsv
    obtain ⟨rfl, rfl⟩ := hsv
    have hx' := HC.out i x hx
    have hle : ¬ x.at_ ≤ t := fun k => by have := hx'.1 k; omega
    have CM : Hid (∀ w : World, Calls Tryz.prog 125 #[.agg #[vi ki x.at_, vi ki x.off, .bool x.dst, .string x.ab], vi ki t] w fun r w' => r = zr (vi ki 1) ∧ Below w.heap.size w w') := fun w => by
     have R := behind1_any x t w
     rw [if_neg hle] at R
     exact R
    have r0 : wr.cell? ⟨g, o + i * 4, none⟩ = some (vi ki x.at_) := hrg 0 (vi ki x.at_) rfl
    have r1 : wr.cell? ⟨g, o + i * 4 + 1, none⟩ = some (vi ki x.off) := hrg 1 (vi ki x.off) rfl
    have r2 : wr.cell? ⟨g, o + i * 4 + 2, none⟩ = some (.bool x.dst) := hrg 2 (.bool x.dst) rfl
    have r3 : wr.cell? ⟨g, o + i * 4 + 3, none⟩ = some (.string x.ab) := hrg 3 (.string x.ab) rfl
    clear hrg hx hx'
    go_wp2_with fail
    refine (CM.out _).mono ?_
    rintro e v1 ⟨rfl, hb⟩
    have HB1 : Hid (Below w.heap.size w v1) := HB.out.trans (hb.mono HB.out.size)
    clear hb CM r0 r1 r2 r3
    go_wp2_with fail
    go_ret2
    exact ⟨rfl, HB1.out⟩
   ·go_wp2_with fail
    go_ret2
    exact ⟨rfl, HB.out⟩
theorem behind_any (T : List Value) (hT : T.length = 25) (L : List TrR) (sv : Value) (h5 : T[5]? = some sv) (t : Int) (hr : Zm.Rises (L.map (·.at_))) (h4 : L.length ≤ 4096) (w : World) (HT : Hid (TrAt w sv L)) :
  Calls Tryz.prog 113 #[.agg T.toArray, vi ki t] w fun r w' => r = zr (vi ki (Zm.cntLe t (L.map (·.at_)) : Int)) ∧ Below w.heap.size w w' := by
 have X1 : Hid (Bx (w.alloc (.cells T.toArray 46)) w.heap.size T) := Bx.new w T 46
 have B1 : Hid (Below w.heap.size w (w.alloc (.cells T.toArray 46))) := (Below.refl _ _).alloc (Nat.le_refl _) _
 have BS1 : Hid (∀ W : World, TrAt W sv L → Calls Tryz.prog 124 #[sv, vi ki t, .func (.func 125) #[] #[]] W fun r w' => r = zr (.tuple #[vi ki (Zm.cntLe t (L.map (·.at_)) : Int), .bool false]) ∧ Below W.heap.size W w') := fun W h => bsearch_any L sv t hr h4 W h
 obtain ⟨⟨ao, c, hsv⟩, _, _⟩ := HT.out
 generalize (Zm.cntLe t (L.map (·.at_))) = C at *
 go_enter Tryz.func113, Tryz.ntmps113
 generalize hUA : T.toArray = UA at *
 go_upto_region 1 with fail
 refine gen_code (fun V => Bx V w.heap.size T ∧ Below w.heap.size w V) ⟨X1.out, B1.out⟩ ?_
 clear X1 B1
 rintro V ⟨XV, BV⟩
 have c5 := XV.c 5 h5
 have HB : Hid (Below w.heap.size w V) := BV
 have HV : Hid (TrAt V sv L) := HT.out.mv BV
 clear XV BV
 subst hsv
 go_wp2_with fail
 refine (BS1.out _ HV.out).mono ?_
 rintro e v1 ⟨rfl, hb⟩
 have HB1 : Hid (Below w.heap.size w v1) := HB.out.trans (hb.mono HB.out.size)
 clear hb
 go_wp2_with fail
 go_ret
 exact ⟨rfl, HB1.out⟩
def tbF (nm : ByteArray) (f : TrR) (sv : Value) (FL : List Value) : List Value := .string nm :: (trC f ++ (sv :: FL))
theorem tbF_len {nm : ByteArray} {f : TrR} {sv : Value} {FL : List Value} (h : FL.length = 19) : (tbF nm f sv FL).length = 25 := by simp [tbF, trC, h]
theorem tbF_foot {nm : ByteArray} {f : TrR} {sv : Value} {FL : List Value} (i : Nat) : (tbF nm f sv FL)[6 + i]? = FL[i]? := by
 unfold tbF trC
 rw [show 6 + i = i + 6 by omega]
 rfl
theorem stand_first_n (nm : ByteArray) (f : TrR) (sv : Value) (FL : List Value) (hF : FL.length = 19) (fr t : Int) (f0 : FL[0]? = some (.bool false)) (f1 : FL[1]? = some (vi ki fr))  (w : World) (BH : Hid (∀ W : World, Below w.heap.size w W → Calls Tryz.prog 113 #[.agg (tbF nm f sv FL).toArray, vi ki t] W fun r w' => r = zr (vi ki 0) ∧ Below W.heap.size W w')) :
  Calls Tryz.prog 97 #[.agg (tbF nm f sv FL).toArray, vi ki t] w fun r w' => r = zr (.agg #[vi ki f.at_, vi ki f.off, .bool f.dst, .string f.ab]) ∧ Below w.heap.size w w' := by
 have X1 : Hid (Bx ((w.alloc (.cells (tbF nm f sv FL).toArray 46)).alloc (.cells #[vi ki 0, vi ki 0, .bool false, .string ⟨#[]⟩] 23)) w.heap.size (tbF nm f sv FL)) := (Bx.new w _ _).alloc _
 have Y1 : Hid (Bx ((w.alloc (.cells (tbF nm f sv FL).toArray 46)).alloc (.cells #[vi ki 0, vi ki 0, .bool false, .string ⟨#[]⟩] 23)) (w.heap.size + 1) [vi ki 0, vi ki 0, .bool false, .string ⟨#[]⟩]) := Bx.newAt _ [vi ki 0, vi ki 0, .bool false, .string ⟨#[]⟩] _ _ (by simp)
 have B1 : Hid (Below w.heap.size w ((w.alloc (.cells (tbF nm f sv FL).toArray 46)).alloc (.cells #[vi ki 0, vi ki 0, .bool false, .string ⟨#[]⟩] 23))) := ((Below.refl _ _).alloc (Nat.le_refl _) _).alloc (by simp) _
 go_enter Tryz.func97, Tryz.ntmps97
 generalize hUA : (tbF nm f sv FL).toArray = UA at *
 go_upto_region 1 with fail
 refine gen_code (fun V => Bx V w.heap.size (tbF nm f sv FL) ∧ Bx V (w.heap.size + 1) [vi ki 0, vi ki 0, .bool false, .string ⟨#[]⟩] ∧ Below w.heap.size w V) ⟨X1.out, Y1.out, B1.out⟩ ?_
 clear X1 B1 Y1
 rintro V ⟨XV, YV, BV⟩
 have c6 : V.cell? ⟨w.heap.size, 6, none⟩ = some (.bool false) := XV.c 6 ((tbF_foot 0).trans f0)
 have c7 : V.cell? ⟨w.heap.size, 7, none⟩ = some (vi ki fr) := XV.c 7 ((tbF_foot 1).trans f1)
 have HX : Hid (Bx V w.heap.size (tbF nm f sv FL)) := XV
 have HY : Hid (Bx V (w.heap.size + 1) [vi ki 0, vi ki 0, .bool false, .string ⟨#[]⟩]) := YV
 have HB : Hid (Below w.heap.size w V) := BV
 clear XV YV BV
 go_wp2_with (first | (refine wpList_load_mid rfl 46 _ rfl w.heap.size 0 rfl (tbF nm f sv FL) _ HX.out.all Tryz.underlying46 rfl (by rw [tbF_len hF]; kernel_rfl) ?_; rw [hUA]) | fail)
 refine (BH.out _ HB.out).mono ?_
 rintro e v1 ⟨rfl, hb⟩
 have HX1 : Hid (Bx v1 w.heap.size (tbF nm f sv FL)) := HX.out.below hb
 have HY1 : Hid (Bx v1 (w.heap.size + 1) [vi ki 0, vi ki 0, .bool false, .string ⟨#[]⟩]) := HY.out.below hb
 have HB1 : Hid (Below w.heap.size w v1) := HB.out.trans (hb.mono HB.out.size)
 clear hb HX HY HB c6 c7 BH
 have r0 : v1.cell? ⟨w.heap.size, 1, none⟩ = some (vi ki f.at_) := HX1.out.c 1 rfl
 have r1 : v1.cell? ⟨w.heap.size, 2, none⟩ = some (vi ki f.off) := HX1.out.c 2 rfl
 have r2 : v1.cell? ⟨w.heap.size, 3, none⟩ = some (.bool f.dst) := HX1.out.c 3 rfl
 have r3 : v1.cell? ⟨w.heap.size, 4, none⟩ = some (.string f.ab) := HX1.out.c 4 rfl
 have l0 : v1.cell? ⟨w.heap.size + 1, 0, none⟩ = some (vi ki 0) := HY1.out.c 0 rfl
 have z0 : v1.frozen? ⟨w.heap.size + 1, 0, none⟩ = false := HY1.out.f 0 (v := vi ki 0) rfl
 have l1 : v1.cell? ⟨w.heap.size + 1, 1, none⟩ = some (vi ki 0) := HY1.out.c 1 rfl
 have z1 : v1.frozen? ⟨w.heap.size + 1, 1, none⟩ = false := HY1.out.f 1 (v := vi ki 0) rfl
 have l2 : v1.cell? ⟨w.heap.size + 1, 2, none⟩ = some (.bool false) := HY1.out.c 2 rfl
 have z2 : v1.frozen? ⟨w.heap.size + 1, 2, none⟩ = false := HY1.out.f 2 (v := .bool false) rfl
 have l3 : v1.cell? ⟨w.heap.size + 1, 3, none⟩ = some (.string ⟨#[]⟩) := HY1.out.c 3 rfl
 have z3 : v1.frozen? ⟨w.heap.size + 1, 3, none⟩ = false := HY1.out.f 3 (v := .string ⟨#[]⟩) rfl
 have XF : Hid (Bx (v1.setCells (w.heap.size + 1) 0 [vi ki f.at_, vi ki f.off, .bool f.dst, .string f.ab]) (w.heap.size + 1) [vi ki f.at_, vi ki f.off, .bool f.dst, .string f.ab]) := HY1.out.setAll _ rfl
 have BF : Hid (Below w.heap.size w (v1.setCells (w.heap.size + 1) 0 [vi ki f.at_, vi ki f.off, .bool f.dst, .string f.ab])) := below_setCells (by omega) _ _ _ HB1.out
 have y0 := XF.out.c 0 rfl
 have y1 := XF.out.c 1 rfl
 have y2 := XF.out.c 2 rfl
 have y3 := XF.out.c 3 rfl
 simp only [World.setCells, Nat.zero_add, Nat.reduceAdd] at y0 y1 y2 y3
 clear HX1 HY1 HB1 XF hUA
 go_wp2_with fail
 exact bodyPost_ret (v := .agg #[vi ki f.at_, vi ki f.off, .bool f.dst, .string f.ab]) (by simp [results, Tryz.results97, go_sem, y0, y1, y2, y3]) rfl ⟨rfl, BF.out⟩
theorem stand_tr_n (nm : ByteArray) (f : TrR) (sv : Value) (FL : List Value) (hF : FL.length = 19) (fr t : Int) (f0 : FL[0]? = some (.bool false)) (f1 : FL[1]? = some (vi ki fr))  (L : List TrR) (h4 : L.length ≤ 4096) (C : Nat) (x : TrR) (hx : L[C]? = some x) (w : World) (HT : Hid (TrAt w sv L)) (BH : Hid (∀ W : World, Below w.heap.size w W → Calls Tryz.prog 113 #[.agg (tbF nm f sv FL).toArray, vi ki t] W fun r w' => r = zr (vi ki ((C + 1 : Nat) : Int)) ∧ Below W.heap.size W w')) :
  Calls Tryz.prog 97 #[.agg (tbF nm f sv FL).toArray, vi ki t] w fun r w' => r = zr (.agg #[vi ki x.at_, vi ki x.off, .bool x.dst, .string x.ab]) ∧ Below w.heap.size w w' := by
 have X1 : Hid (Bx ((w.alloc (.cells (tbF nm f sv FL).toArray 46)).alloc (.cells #[vi ki 0, vi ki 0, .bool false, .string ⟨#[]⟩] 23)) w.heap.size (tbF nm f sv FL)) := (Bx.new w _ _).alloc _
 have Y1 : Hid (Bx ((w.alloc (.cells (tbF nm f sv FL).toArray 46)).alloc (.cells #[vi ki 0, vi ki 0, .bool false, .string ⟨#[]⟩] 23)) (w.heap.size + 1) [vi ki 0, vi ki 0, .bool false, .string ⟨#[]⟩]) := Bx.newAt _ [vi ki 0, vi ki 0, .bool false, .string ⟨#[]⟩] _ _ (by simp)
 have B1 : Hid (Below w.heap.size w ((w.alloc (.cells (tbF nm f sv FL).toArray 46)).alloc (.cells #[vi ki 0, vi ki 0, .bool false, .string ⟨#[]⟩] 23))) := ((Below.refl _ _).alloc (Nat.le_refl _) _).alloc (by simp) _
 go_enter Tryz.func97, Tryz.ntmps97
 generalize hUA : (tbF nm f sv FL).toArray = UA at *
 go_upto_region 1 with fail
 refine gen_code (fun V => Bx V w.heap.size (tbF nm f sv FL) ∧ Bx V (w.heap.size + 1) [vi ki 0, vi ki 0, .bool false, .string ⟨#[]⟩] ∧ Below w.heap.size w V) ⟨X1.out, Y1.out, B1.out⟩ ?_
 clear X1 B1 Y1
 rintro V ⟨XV, YV, BV⟩
 have c6 : V.cell? ⟨w.heap.size, 6, none⟩ = some (.bool false) := XV.c 6 ((tbF_foot 0).trans f0)
 have c7 : V.cell? ⟨w.heap.size, 7, none⟩ = some (vi ki fr) := XV.c 7 ((tbF_foot 1).trans f1)
 have HX : Hid (Bx V w.heap.size (tbF nm f sv FL)) := XV
 have HY : Hid (Bx V (w.heap.size + 1) [vi ki 0, vi ki 0, .bool false, .string ⟨#[]⟩]) := YV
 have HB : Hid (Below w.heap.size w V) := BV
 clear XV YV BV
 go_wp2_with (first | (refine wpList_load_mid rfl 46 _ rfl w.heap.size 0 rfl (tbF nm f sv FL) _ HX.out.all Tryz.underlying46 rfl (by rw [tbF_len hF]; kernel_rfl) ?_; rw [hUA]) | fail)
 refine (BH.out _ HB.out).mono ?_
 rintro e v1 ⟨rfl, hb⟩
 have HX1 : Hid (Bx v1 w.heap.size (tbF nm f sv FL)) := HX.out.below hb
 have HY1 : Hid (Bx v1 (w.heap.size + 1) [vi ki 0, vi ki 0, .bool false, .string ⟨#[]⟩]) := HY.out.below hb
 have HB1 : Hid (Below w.heap.size w v1) := HB.out.trans (hb.mono HB.out.size)
 clear hb HX HY HB c6 c7 BH
 obtain ⟨g, o, c', hsv, hrg⟩ := (HT.out.mv HB1.out).row hx
 have hlt : C < L.length := (List.getElem?_eq_some_iff.1 hx).1
 have r5 : v1.cell? ⟨w.heap.size, 5, none⟩ = some sv := HX1.out.c 5 rfl
 have HRG : Hid (v1.rangeAt g (o + C * 4) (trC x)) := hrg
 have e1 : ((C : Int) + 1) - 1 = (C : Int) := by omega
 clear hrg hx HT
 subst hsv
 have l0 : v1.cell? ⟨w.heap.size + 1, 0, none⟩ = some (vi ki 0) := HY1.out.c 0 rfl
 have z0 : v1.frozen? ⟨w.heap.size + 1, 0, none⟩ = false := HY1.out.f 0 (v := vi ki 0) rfl
 have l1 : v1.cell? ⟨w.heap.size + 1, 1, none⟩ = some (vi ki 0) := HY1.out.c 1 rfl
 have z1 : v1.frozen? ⟨w.heap.size + 1, 1, none⟩ = false := HY1.out.f 1 (v := vi ki 0) rfl
 have l2 : v1.cell? ⟨w.heap.size + 1, 2, none⟩ = some (.bool false) := HY1.out.c 2 rfl
 have z2 : v1.frozen? ⟨w.heap.size + 1, 2, none⟩ = false := HY1.out.f 2 (v := .bool false) rfl
 have l3 : v1.cell? ⟨w.heap.size + 1, 3, none⟩ = some (.string ⟨#[]⟩) := HY1.out.c 3 rfl
 have z3 : v1.frozen? ⟨w.heap.size + 1, 3, none⟩ = false := HY1.out.f 3 (v := .string ⟨#[]⟩) rfl
 have XF : Hid (Bx (v1.setCells (w.heap.size + 1) 0 [vi ki x.at_, vi ki x.off, .bool x.dst, .string x.ab]) (w.heap.size + 1) [vi ki x.at_, vi ki x.off, .bool x.dst, .string x.ab]) := HY1.out.setAll _ rfl
 have BF : Hid (Below w.heap.size w (v1.setCells (w.heap.size + 1) 0 [vi ki x.at_, vi ki x.off, .bool x.dst, .string x.ab])) := below_setCells (by omega) _ _ _ HB1.out
 have y0 := XF.out.c 0 rfl
 have y1 := XF.out.c 1 rfl
 have y2 := XF.out.c 2 rfl
 have y3 := XF.out.c 3 rfl
 simp only [World.setCells, Nat.zero_add, Nat.reduceAdd] at y0 y1 y2 y3
 clear HX1 HY1 HB1 XF hUA
 go_wp2_with (first | (refine wpList_load_mid rfl 23 _ rfl g (o + C * 4) rfl [vi ki x.at_, vi ki x.off, .bool x.dst, .string x.ab] _ HRG.out Tryz.underlying23 rfl (by kernel_rfl) ?_) | fail)
 exact bodyPost_ret (v := .agg #[vi ki x.at_, vi ki x.off, .bool x.dst, .string x.ab]) (by simp [results, Tryz.results97, go_sem, y0, y1, y2, y3]) rfl ⟨rfl, BF.out⟩
theorem stand_first_e (nm : ByteArray) (f : TrR) (sv : Value) (FL : List Value) (hF : FL.length = 19) (fr t : Int) (f0 : FL[0]? = some (.bool true)) (f1 : FL[1]? = some (vi ki fr)) (hno : ¬ fr ≤ t) (w : World) (BH : Hid (∀ W : World, Below w.heap.size w W → Calls Tryz.prog 113 #[.agg (tbF nm f sv FL).toArray, vi ki t] W fun r w' => r = zr (vi ki 0) ∧ Below W.heap.size W w')) :
  Calls Tryz.prog 97 #[.agg (tbF nm f sv FL).toArray, vi ki t] w fun r w' => r = zr (.agg #[vi ki f.at_, vi ki f.off, .bool f.dst, .string f.ab]) ∧ Below w.heap.size w w' := by
 have X1 : Hid (Bx ((w.alloc (.cells (tbF nm f sv FL).toArray 46)).alloc (.cells #[vi ki 0, vi ki 0, .bool false, .string ⟨#[]⟩] 23)) w.heap.size (tbF nm f sv FL)) := (Bx.new w _ _).alloc _
 have Y1 : Hid (Bx ((w.alloc (.cells (tbF nm f sv FL).toArray 46)).alloc (.cells #[vi ki 0, vi ki 0, .bool false, .string ⟨#[]⟩] 23)) (w.heap.size + 1) [vi ki 0, vi ki 0, .bool false, .string ⟨#[]⟩]) := Bx.newAt _ [vi ki 0, vi ki 0, .bool false, .string ⟨#[]⟩] _ _ (by simp)
 have B1 : Hid (Below w.heap.size w ((w.alloc (.cells (tbF nm f sv FL).toArray 46)).alloc (.cells #[vi ki 0, vi ki 0, .bool false, .string ⟨#[]⟩] 23))) := ((Below.refl _ _).alloc (Nat.le_refl _) _).alloc (by simp) _
 have hd : decide (fr ≤ t) = false := decide_eq_false hno
 go_enter Tryz.func97, Tryz.ntmps97
 generalize hUA : (tbF nm f sv FL).toArray = UA at *
 go_upto_region 1 with fail
 refine gen_code (fun V => Bx V w.heap.size (tbF nm f sv FL) ∧ Bx V (w.heap.size + 1) [vi ki 0, vi ki 0, .bool false, .string ⟨#[]⟩] ∧ Below w.heap.size w V) ⟨X1.out, Y1.out, B1.out⟩ ?_
 clear X1 B1 Y1
 rintro V ⟨XV, YV, BV⟩
 have c6 : V.cell? ⟨w.heap.size, 6, none⟩ = some (.bool true) := XV.c 6 ((tbF_foot 0).trans f0)
 have c7 : V.cell? ⟨w.heap.size, 7, none⟩ = some (vi ki fr) := XV.c 7 ((tbF_foot 1).trans f1)
 have HX : Hid (Bx V w.heap.size (tbF nm f sv FL)) := XV
 have HY : Hid (Bx V (w.heap.size + 1) [vi ki 0, vi ki 0, .bool false, .string ⟨#[]⟩]) := YV
 have HB : Hid (Below w.heap.size w V) := BV
 clear XV YV BV
 go_wp2_with (first | (refine wpList_load_mid rfl 46 _ rfl w.heap.size 0 rfl (tbF nm f sv FL) _ HX.out.all Tryz.underlying46 rfl (by rw [tbF_len hF]; kernel_rfl) ?_; rw [hUA]) | fail)
 refine (BH.out _ HB.out).mono ?_
 rintro e v1 ⟨rfl, hb⟩
 have HX1 : Hid (Bx v1 w.heap.size (tbF nm f sv FL)) := HX.out.below hb
 have HY1 : Hid (Bx v1 (w.heap.size + 1) [vi ki 0, vi ki 0, .bool false, .string ⟨#[]⟩]) := HY.out.below hb
 have HB1 : Hid (Below w.heap.size w v1) := HB.out.trans (hb.mono HB.out.size)
 clear hb HX HY HB c6 c7 BH
 have r0 : v1.cell? ⟨w.heap.size, 1, none⟩ = some (vi ki f.at_) := HX1.out.c 1 rfl
 have r1 : v1.cell? ⟨w.heap.size, 2, none⟩ = some (vi ki f.off) := HX1.out.c 2 rfl
 have r2 : v1.cell? ⟨w.heap.size, 3, none⟩ = some (.bool f.dst) := HX1.out.c 3 rfl
 have r3 : v1.cell? ⟨w.heap.size, 4, none⟩ = some (.string f.ab) := HX1.out.c 4 rfl
 have l0 : v1.cell? ⟨w.heap.size + 1, 0, none⟩ = some (vi ki 0) := HY1.out.c 0 rfl
 have z0 : v1.frozen? ⟨w.heap.size + 1, 0, none⟩ = false := HY1.out.f 0 (v := vi ki 0) rfl
 have l1 : v1.cell? ⟨w.heap.size + 1, 1, none⟩ = some (vi ki 0) := HY1.out.c 1 rfl
 have z1 : v1.frozen? ⟨w.heap.size + 1, 1, none⟩ = false := HY1.out.f 1 (v := vi ki 0) rfl
 have l2 : v1.cell? ⟨w.heap.size + 1, 2, none⟩ = some (.bool false) := HY1.out.c 2 rfl
 have z2 : v1.frozen? ⟨w.heap.size + 1, 2, none⟩ = false := HY1.out.f 2 (v := .bool false) rfl
 have l3 : v1.cell? ⟨w.heap.size + 1, 3, none⟩ = some (.string ⟨#[]⟩) := HY1.out.c 3 rfl
 have z3 : v1.frozen? ⟨w.heap.size + 1, 3, none⟩ = false := HY1.out.f 3 (v := .string ⟨#[]⟩) rfl
 have XF : Hid (Bx (v1.setCells (w.heap.size + 1) 0 [vi ki f.at_, vi ki f.off, .bool f.dst, .string f.ab]) (w.heap.size + 1) [vi ki f.at_, vi ki f.off, .bool f.dst, .string f.ab]) := HY1.out.setAll _ rfl
 have BF : Hid (Below w.heap.size w (v1.setCells (w.heap.size + 1) 0 [vi ki f.at_, vi ki f.off, .bool f.dst, .string f.ab])) := below_setCells (by omega) _ _ _ HB1.out
 have y0 := XF.out.c 0 rfl
 have y1 := XF.out.c 1 rfl
 have y2 := XF.out.c 2 rfl
 have y3 := XF.out.c 3 rfl
 simp only [World.setCells, Nat.zero_add, Nat.reduceAdd] at y0 y1 y2 y3
 clear HX1 HY1 HB1 XF hUA
 go_wp2_with fail
 exact bodyPost_ret (v := .agg #[vi ki f.at_, vi ki f.off, .bool f.dst, .string f.ab]) (by simp [results, Tryz.results97, go_sem, y0, y1, y2, y3]) rfl ⟨rfl, BF.out⟩
theorem stand_tr_e (nm : ByteArray) (f : TrR) (sv : Value) (FL : List Value) (hF : FL.length = 19) (fr t : Int) (f0 : FL[0]? = some (.bool true)) (f1 : FL[1]? = some (vi ki fr)) (hno : ¬ fr ≤ t) (L : List TrR) (h4 : L.length ≤ 4096) (C : Nat) (x : TrR) (hx : L[C]? = some x) (w : World) (HT : Hid (TrAt w sv L)) (BH : Hid (∀ W : World, Below w.heap.size w W → Calls Tryz.prog 113 #[.agg (tbF nm f sv FL).toArray, vi ki t] W fun r w' => r = zr (vi ki ((C + 1 : Nat) : Int)) ∧ Below W.heap.size W w')) :
  Calls Tryz.prog 97 #[.agg (tbF nm f sv FL).toArray, vi ki t] w fun r w' => r = zr (.agg #[vi ki x.at_, vi ki x.off, .bool x.dst, .string x.ab]) ∧ Below w.heap.size w w' := by
 have X1 : Hid (Bx ((w.alloc (.cells (tbF nm f sv FL).toArray 46)).alloc (.cells #[vi ki 0, vi ki 0, .bool false, .string ⟨#[]⟩] 23)) w.heap.size (tbF nm f sv FL)) := (Bx.new w _ _).alloc _
 have Y1 : Hid (Bx ((w.alloc (.cells (tbF nm f sv FL).toArray 46)).alloc (.cells #[vi ki 0, vi ki 0, .bool false, .string ⟨#[]⟩] 23)) (w.heap.size + 1) [vi ki 0, vi ki 0, .bool false, .string ⟨#[]⟩]) := Bx.newAt _ [vi ki 0, vi ki 0, .bool false, .string ⟨#[]⟩] _ _ (by simp)
 have B1 : Hid (Below w.heap.size w ((w.alloc (.cells (tbF nm f sv FL).toArray 46)).alloc (.cells #[vi ki 0, vi ki 0, .bool false, .string ⟨#[]⟩] 23))) := ((Below.refl _ _).alloc (Nat.le_refl _) _).alloc (by simp) _
 have hd : decide (fr ≤ t) = false := decide_eq_false hno
 go_enter Tryz.func97, Tryz.ntmps97
 generalize hUA : (tbF nm f sv FL).toArray = UA at *
 go_upto_region 1 with fail
 refine gen_code (fun V => Bx V w.heap.size (tbF nm f sv FL) ∧ Bx V (w.heap.size + 1) [vi ki 0, vi ki 0, .bool false, .string ⟨#[]⟩] ∧ Below w.heap.size w V) ⟨X1.out, Y1.out, B1.out⟩ ?_
 clear X1 B1 Y1
 rintro V ⟨XV, YV, BV⟩
 have c6 : V.cell? ⟨w.heap.size, 6, none⟩ = some (.bool true) := XV.c 6 ((tbF_foot 0).trans f0)
 have c7 : V.cell? ⟨w.heap.size, 7, none⟩ = some (vi ki fr) := XV.c 7 ((tbF_foot 1).trans f1)
 have HX : Hid (Bx V w.heap.size (tbF nm f sv FL)) := XV
 have HY : Hid (Bx V (w.heap.size + 1) [vi ki 0, vi ki 0, .bool false, .string ⟨#[]⟩]) := YV
 have HB : Hid (Below w.heap.size w V) := BV
 clear XV YV BV
 go_wp2_with (first | (refine wpList_load_mid rfl 46 _ rfl w.heap.size 0 rfl (tbF nm f sv FL) _ HX.out.all Tryz.underlying46 rfl (by rw [tbF_len hF]; kernel_rfl) ?_; rw [hUA]) | fail)
 refine (BH.out _ HB.out).mono ?_
 rintro e v1 ⟨rfl, hb⟩
 have HX1 : Hid (Bx v1 w.heap.size (tbF nm f sv FL)) := HX.out.below hb
 have HY1 : Hid (Bx v1 (w.heap.size + 1) [vi ki 0, vi ki 0, .bool false, .string ⟨#[]⟩]) := HY.out.below hb
 have HB1 : Hid (Below w.heap.size w v1) := HB.out.trans (hb.mono HB.out.size)
 clear hb HX HY HB c6 c7 BH
 obtain ⟨g, o, c', hsv, hrg⟩ := (HT.out.mv HB1.out).row hx
 have hlt : C < L.length := (List.getElem?_eq_some_iff.1 hx).1
 have r5 : v1.cell? ⟨w.heap.size, 5, none⟩ = some sv := HX1.out.c 5 rfl
 have HRG : Hid (v1.rangeAt g (o + C * 4) (trC x)) := hrg
 have e1 : ((C : Int) + 1) - 1 = (C : Int) := by omega
 clear hrg hx HT
 subst hsv
 have l0 : v1.cell? ⟨w.heap.size + 1, 0, none⟩ = some (vi ki 0) := HY1.out.c 0 rfl
 have z0 : v1.frozen? ⟨w.heap.size + 1, 0, none⟩ = false := HY1.out.f 0 (v := vi ki 0) rfl
 have l1 : v1.cell? ⟨w.heap.size + 1, 1, none⟩ = some (vi ki 0) := HY1.out.c 1 rfl
 have z1 : v1.frozen? ⟨w.heap.size + 1, 1, none⟩ = false := HY1.out.f 1 (v := vi ki 0) rfl
 have l2 : v1.cell? ⟨w.heap.size + 1, 2, none⟩ = some (.bool false) := HY1.out.c 2 rfl
 have z2 : v1.frozen? ⟨w.heap.size + 1, 2, none⟩ = false := HY1.out.f 2 (v := .bool false) rfl
 have l3 : v1.cell? ⟨w.heap.size + 1, 3, none⟩ = some (.string ⟨#[]⟩) := HY1.out.c 3 rfl
 have z3 : v1.frozen? ⟨w.heap.size + 1, 3, none⟩ = false := HY1.out.f 3 (v := .string ⟨#[]⟩) rfl
 have XF : Hid (Bx (v1.setCells (w.heap.size + 1) 0 [vi ki x.at_, vi ki x.off, .bool x.dst, .string x.ab]) (w.heap.size + 1) [vi ki x.at_, vi ki x.off, .bool x.dst, .string x.ab]) := HY1.out.setAll _ rfl
 have BF : Hid (Below w.heap.size w (v1.setCells (w.heap.size + 1) 0 [vi ki x.at_, vi ki x.off, .bool x.dst, .string x.ab])) := below_setCells (by omega) _ _ _ HB1.out
 have y0 := XF.out.c 0 rfl
 have y1 := XF.out.c 1 rfl
 have y2 := XF.out.c 2 rfl
 have y3 := XF.out.c 3 rfl
 simp only [World.setCells, Nat.zero_add, Nat.reduceAdd] at y0 y1 y2 y3
 clear HX1 HY1 HB1 XF hUA
 go_wp2_with (first | (refine wpList_load_mid rfl 23 _ rfl g (o + C * 4) rfl [vi ki x.at_, vi ki x.off, .bool x.dst, .string x.ab] _ HRG.out Tryz.underlying23 rfl (by kernel_rfl) ?_) | fail)
 exact bodyPost_ret (v := .agg #[vi ki x.at_, vi ki x.off, .bool x.dst, .string x.ab]) (by simp [results, Tryz.results97, go_sem, y0, y1, y2, y3]) rfl ⟨rfl, BF.out⟩
theorem stand_foot (nm : ByteArray) (f : TrR) (sv : Value) (FL : List Value) (hF : FL.length = 19) (fr t : Int) (f0 : FL[0]? = some (.bool true)) (f1 : FL[1]? = some (vi ki fr)) (hy : fr ≤ t) (x : TrR) (er : Int) (w : World) (FA : Hid (∀ W : World, Below w.heap.size w W → Calls Tryz.prog 57 #[.agg FL.toArray, vi ki t] W fun r w' => r = zr (.tuple #[.agg #[vi ki x.at_, vi ki x.off, .bool x.dst, .string x.ab], vi ki er]) ∧ Below W.heap.size W w')) :
  Calls Tryz.prog 97 #[.agg (tbF nm f sv FL).toArray, vi ki t] w fun r w' => r = zr (.agg #[vi ki x.at_, vi ki x.off, .bool x.dst, .string x.ab]) ∧ Below w.heap.size w w' := by
 have X1 : Hid (Bx ((w.alloc (.cells (tbF nm f sv FL).toArray 46)).alloc (.cells #[vi ki 0, vi ki 0, .bool false, .string ⟨#[]⟩] 23)) w.heap.size (tbF nm f sv FL)) := (Bx.new w _ _).alloc _
 have Y1 : Hid (Bx ((w.alloc (.cells (tbF nm f sv FL).toArray 46)).alloc (.cells #[vi ki 0, vi ki 0, .bool false, .string ⟨#[]⟩] 23)) (w.heap.size + 1) [vi ki 0, vi ki 0, .bool false, .string ⟨#[]⟩]) := Bx.newAt _ [vi ki 0, vi ki 0, .bool false, .string ⟨#[]⟩] _ _ (by simp)
 have B1 : Hid (Below w.heap.size w ((w.alloc (.cells (tbF nm f sv FL).toArray 46)).alloc (.cells #[vi ki 0, vi ki 0, .bool false, .string ⟨#[]⟩] 23))) := ((Below.refl _ _).alloc (Nat.le_refl _) _).alloc (by simp) _
 have hd : decide (fr ≤ t) = true := decide_eq_true hy
 go_enter Tryz.func97, Tryz.ntmps97
 generalize hUA : (tbF nm f sv FL).toArray = UA at *
 go_upto_region 1 with fail
 refine gen_code (fun V => Bx V w.heap.size (tbF nm f sv FL) ∧ Bx V (w.heap.size + 1) [vi ki 0, vi ki 0, .bool false, .string ⟨#[]⟩] ∧ Below w.heap.size w V) ⟨X1.out, Y1.out, B1.out⟩ ?_
 clear X1 B1 Y1
 rintro V ⟨XV, YV, BV⟩
 have c6 : V.cell? ⟨w.heap.size, 6, none⟩ = some (.bool true) := XV.c 6 ((tbF_foot 0).trans f0)
 have c7 : V.cell? ⟨w.heap.size, 7, none⟩ = some (vi ki fr) := XV.c 7 ((tbF_foot 1).trans f1)
 have HX : Hid (Bx V w.heap.size (tbF nm f sv FL)) := XV
 have HY : Hid (Bx V (w.heap.size + 1) [vi ki 0, vi ki 0, .bool false, .string ⟨#[]⟩]) := YV
 have HB : Hid (Below w.heap.size w V) := BV
 clear XV YV BV
 have HR : Hid (V.rangeAt w.heap.size 6 FL) := fun j v hv => (HX.out.2 (6 + j) v ((tbF_foot j).trans hv)).1
 go_wp2_with (first | (refine wpList_load_mid rfl 44 _ rfl w.heap.size 6 rfl FL _ HR.out Tryz.underlying44 rfl (by rw [hF]; kernel_rfl) ?_) | fail)
 refine (FA.out _ HB.out).mono ?_
 rintro e v1 ⟨rfl, hb⟩
 have HY1 : Hid (Bx (v1.alloc (.cells #[vi ki x.at_, vi ki x.off, .bool x.dst, .string x.ab] 23)) (w.heap.size + 1) [vi ki 0, vi ki 0, .bool false, .string ⟨#[]⟩]) := (HY.out.below hb).alloc _
 have HZ1 : Hid (Bx (v1.alloc (.cells #[vi ki x.at_, vi ki x.off, .bool x.dst, .string x.ab] 23)) v1.heap.size [vi ki x.at_, vi ki x.off, .bool x.dst, .string x.ab]) := Bx.new v1 [vi ki x.at_, vi ki x.off, .bool x.dst, .string x.ab] _
 have HB1 : Hid (Below w.heap.size w (v1.alloc (.cells #[vi ki x.at_, vi ki x.off, .bool x.dst, .string x.ab] 23))) := (HB.out.trans (hb.mono HB.out.size)).alloc (HB.out.trans (hb.mono HB.out.size)).size _
 clear hb HX HY HB c6 c7 FA HR
 go_upto_region 3 with fail
 refine gen_code (fun V => Bx V (w.heap.size + 1) [vi ki 0, vi ki 0, .bool false, .string ⟨#[]⟩] ∧ Bx V v1.heap.size [vi ki x.at_, vi ki x.off, .bool x.dst, .string x.ab] ∧ Below w.heap.size w V) ⟨HY1.out, HZ1.out, HB1.out⟩ ?_
 clear HY1 HZ1 HB1
 rintro v2 ⟨YV, ZV, BV⟩
 have HY1 : Hid (Bx v2 (w.heap.size + 1) [vi ki 0, vi ki 0, .bool false, .string ⟨#[]⟩]) := YV
 have HB1 : Hid (Below w.heap.size w v2) := BV
 have r0 : v2.cell? ⟨v1.heap.size, 0, none⟩ = some (vi ki x.at_) := ZV.c 0 rfl
 have r1 : v2.cell? ⟨v1.heap.size, 1, none⟩ = some (vi ki x.off) := ZV.c 1 rfl
 have r2 : v2.cell? ⟨v1.heap.size, 2, none⟩ = some (.bool x.dst) := ZV.c 2 rfl
 have r3 : v2.cell? ⟨v1.heap.size, 3, none⟩ = some (.string x.ab) := ZV.c 3 rfl
 clear YV ZV BV
 have l0 : v2.cell? ⟨w.heap.size + 1, 0, none⟩ = some (vi ki 0) := HY1.out.c 0 rfl
 have z0 : v2.frozen? ⟨w.heap.size + 1, 0, none⟩ = false := HY1.out.f 0 (v := vi ki 0) rfl
 have l1 : v2.cell? ⟨w.heap.size + 1, 1, none⟩ = some (vi ki 0) := HY1.out.c 1 rfl
 have z1 : v2.frozen? ⟨w.heap.size + 1, 1, none⟩ = false := HY1.out.f 1 (v := vi ki 0) rfl
 have l2 : v2.cell? ⟨w.heap.size + 1, 2, none⟩ = some (.bool false) := HY1.out.c 2 rfl
 have z2 : v2.frozen? ⟨w.heap.size + 1, 2, none⟩ = false := HY1.out.f 2 (v := .bool false) rfl
 have l3 : v2.cell? ⟨w.heap.size + 1, 3, none⟩ = some (.string ⟨#[]⟩) := HY1.out.c 3 rfl
 have z3 : v2.frozen? ⟨w.heap.size + 1, 3, none⟩ = false := HY1.out.f 3 (v := .string ⟨#[]⟩) rfl
 have XF : Hid (Bx (v2.setCells (w.heap.size + 1) 0 [vi ki x.at_, vi ki x.off, .bool x.dst, .string x.ab]) (w.heap.size + 1) [vi ki x.at_, vi ki x.off, .bool x.dst, .string x.ab]) := HY1.out.setAll _ rfl
 have BF : Hid (Below w.heap.size w (v2.setCells (w.heap.size + 1) 0 [vi ki x.at_, vi ki x.off, .bool x.dst, .string x.ab])) := below_setCells (by omega) _ _ _ HB1.out
 have y0 := XF.out.c 0 rfl
 have y1 := XF.out.c 1 rfl
 have y2 := XF.out.c 2 rfl
 have y3 := XF.out.c 3 rfl
 simp only [World.setCells, Nat.zero_add, Nat.reduceAdd] at y0 y1 y2 y3
 clear HY1 HB1 XF hUA
 go_wp2_with fail
 exact bodyPost_ret (v := .agg #[vi ki x.at_, vi ki x.off, .bool x.dst, .string x.ab]) (by simp [results, Tryz.results97, go_sem, y0, y1, y2, y3]) rfl ⟨rfl, BF.out⟩
def askY (y : Int) : Bool := decide (-4714 ≤ y ∧ y ≤ 294278)
theorem ret_bz {a b : Bool} (h : a = b) : Ending.returned (.bool a) = zr (.bool b) := by rw [h]
theorem asked_1 (t y : Int) (h : ¬ -4714 ≤ y) (w : World) (YA : Hid (Calls Tryz.prog 56 #[vi ki t] w fun r w' => r = zr (vi ki y) ∧ w' = w)) :
  Calls Tryz.prog 96 #[vi ki t] w fun r w' => r = zr (.bool false) ∧ w' = w := by
 go_enter Tryz.func96, Tryz.ntmps96
 go_wp2_with fail
 refine YA.out.mono ?_
 rintro e w1 ⟨rfl, rfl⟩
 go_wp2_with fail
 go_ret
 exact ⟨rfl, rfl⟩
theorem asked_2 (t y : Int) (h : -4714 ≤ y) (g : ¬ y ≤ 294278) (w : World) (YA : Hid (Calls Tryz.prog 56 #[vi ki t] w fun r w' => r = zr (vi ki y) ∧ w' = w)) :
  Calls Tryz.prog 96 #[vi ki t] w fun r w' => r = zr (.bool false) ∧ w' = w := by
 go_enter Tryz.func96, Tryz.ntmps96
 go_wp2_with fail
 refine YA.out.mono ?_
 rintro e w1 ⟨rfl, rfl⟩
 go_wp2_with fail
 go_ret
 exact ⟨ret_bz (by simp; omega), rfl⟩
theorem asked_3 (t y : Int) (h : -4714 ≤ y) (g : y ≤ 294278) (w : World) (YA : Hid (Calls Tryz.prog 56 #[vi ki t] w fun r w' => r = zr (vi ki y) ∧ w' = w)) :
  Calls Tryz.prog 96 #[vi ki t] w fun r w' => r = zr (.bool true) ∧ w' = w := by
 go_enter Tryz.func96, Tryz.ntmps96
 go_wp2_with fail
 refine YA.out.mono ?_
 rintro e w1 ⟨rfl, rfl⟩
 go_wp2_with fail
 go_ret
 exact ⟨rfl, rfl⟩
theorem asked_any (t y : Int) (w : World) (YA : Hid (Calls Tryz.prog 56 #[vi ki t] w fun r w' => r = zr (vi ki y) ∧ w' = w)) :
  Calls Tryz.prog 96 #[vi ki t] w fun r w' => r = zr (.bool (askY y)) ∧ w' = w := by
 unfold askY
 by_cases h : -4714 ≤ y
 ·by_cases g : y ≤ 294278
  ·rw [decide_eq_true ⟨h, g⟩]; exact asked_3 t y h g w YA
  ·rw [decide_eq_false (fun k => g k.2)]; exact asked_2 t y h g w YA
 ·rw [decide_eq_false (fun k => h k.1)]; exact asked_1 t y h w YA
theorem zat_no (T : List Value) (hT : T.length = 25) (t : Int) (w : World) (RT : Hid (∀ W : World, Below w.heap.size w W → Calls Tryz.prog 16 #[.agg T.toArray] W fun r w' => r = zr (.bool false) ∧ Below W.heap.size W w')) :
  Calls Tryz.prog 77 #[.agg T.toArray, vi ki t] w fun r w' => r = zr (.tuple #[.agg #[vi ki 0, vi ki 0, .bool false, .string ⟨#[]⟩], vi ki 1]) ∧ Below w.heap.size w w' := by
 have X1 : Hid (Bx ((w.alloc (.cells T.toArray 46)).alloc (.cells #[vi ki 0, vi ki 0, .bool false, .string ⟨#[]⟩] 23)) w.heap.size T) := (Bx.new w _ _).alloc _
 have Y1 : Hid (Bx ((w.alloc (.cells T.toArray 46)).alloc (.cells #[vi ki 0, vi ki 0, .bool false, .string ⟨#[]⟩] 23)) (w.heap.size + 1) [vi ki 0, vi ki 0, .bool false, .string ⟨#[]⟩]) := Bx.newAt _ [vi ki 0, vi ki 0, .bool false, .string ⟨#[]⟩] _ _ (by simp)
 have B1 : Hid (Below w.heap.size w ((w.alloc (.cells T.toArray 46)).alloc (.cells #[vi ki 0, vi ki 0, .bool false, .string ⟨#[]⟩] 23))) := ((Below.refl _ _).alloc (Nat.le_refl _) _).alloc (by simp) _
 go_enter Tryz.func77, Tryz.ntmps77
 generalize hUA : T.toArray = UA at *
 go_upto_region 1 with fail
 refine gen_code (fun V => Bx V w.heap.size T ∧ Bx V (w.heap.size + 1) [vi ki 0, vi ki 0, .bool false, .string ⟨#[]⟩] ∧ Below w.heap.size w V) ⟨X1.out, Y1.out, B1.out⟩ ?_
 clear X1 B1 Y1
 rintro V ⟨XV, YV, BV⟩
 have HX : Hid (Bx V w.heap.size T) := XV
 have HY : Hid (Bx V (w.heap.size + 1) [vi ki 0, vi ki 0, .bool false, .string ⟨#[]⟩]) := YV
 have HB : Hid (Below w.heap.size w V) := BV
 clear XV YV BV
 go_wp2_with (first | (refine wpList_load_mid rfl 46 _ rfl w.heap.size 0 rfl T _ HX.out.all Tryz.underlying46 rfl (by rw [hT]; kernel_rfl) ?_; rw [hUA]) | fail)
 refine (RT.out _ HB.out).mono ?_
 rintro e v1 ⟨rfl, hb⟩
 have HX1 : Hid (Bx v1 w.heap.size T) := HX.out.below hb
 have HY1 : Hid (Bx v1 (w.heap.size + 1) [vi ki 0, vi ki 0, .bool false, .string ⟨#[]⟩]) := HY.out.below hb
 have HB1 : Hid (Below w.heap.size w v1) := HB.out.trans (hb.mono HB.out.size)
 clear hb HX HY HB
 have l0 : v1.cell? ⟨w.heap.size + 1, 0, none⟩ = some (vi ki 0) := HY1.out.c 0 rfl
 have z0 : v1.frozen? ⟨w.heap.size + 1, 0, none⟩ = false := HY1.out.f 0 (v := vi ki 0) rfl
 have l1 : v1.cell? ⟨w.heap.size + 1, 1, none⟩ = some (vi ki 0) := HY1.out.c 1 rfl
 have z1 : v1.frozen? ⟨w.heap.size + 1, 1, none⟩ = false := HY1.out.f 1 (v := vi ki 0) rfl
 have l2 : v1.cell? ⟨w.heap.size + 1, 2, none⟩ = some (.bool false) := HY1.out.c 2 rfl
 have z2 : v1.frozen? ⟨w.heap.size + 1, 2, none⟩ = false := HY1.out.f 2 (v := .bool false) rfl
 have l3 : v1.cell? ⟨w.heap.size + 1, 3, none⟩ = some (.string ⟨#[]⟩) := HY1.out.c 3 rfl
 have z3 : v1.frozen? ⟨w.heap.size + 1, 3, none⟩ = false := HY1.out.f 3 (v := .string ⟨#[]⟩) rfl
 have XF : Hid (Bx (v1.setCells (w.heap.size + 1) 0 [vi ki 0, vi ki 0, .bool false, .string ⟨#[]⟩]) (w.heap.size + 1) [vi ki 0, vi ki 0, .bool false, .string ⟨#[]⟩]) := HY1.out.setAll _ rfl
 have BF : Hid (Below w.heap.size w (v1.setCells (w.heap.size + 1) 0 [vi ki 0, vi ki 0, .bool false, .string ⟨#[]⟩])) := below_setCells (by omega) _ _ _ HB1.out
 have y0 := XF.out.c 0 rfl
 have y1 := XF.out.c 1 rfl
 have y2 := XF.out.c 2 rfl
 have y3 := XF.out.c 3 rfl
 simp only [World.setCells, Nat.zero_add, Nat.reduceAdd] at y0 y1 y2 y3
 clear XF
 go_wp2_with fail
 exact bodyPost_ret (v := .tuple #[.agg #[vi ki 0, vi ki 0, .bool false, .string ⟨#[]⟩], vi ki 1]) (by simp [results, Tryz.results77, go_sem, y0, y1, y2, y3]) rfl ⟨rfl, BF.out⟩
theorem zat_range (T : List Value) (hT : T.length = 25) (t : Int) (w : World) (RT : Hid (∀ W : World, Below w.heap.size w W → Calls Tryz.prog 16 #[.agg T.toArray] W fun r w' => r = zr (.bool true) ∧ Below W.heap.size W w'))
  (AS : Hid (∀ W : World, Below w.heap.size w W → Calls Tryz.prog 96 #[vi ki t] W fun r w' => r = zr (.bool false) ∧ w' = W)) :
  Calls Tryz.prog 77 #[.agg T.toArray, vi ki t] w fun r w' => r = zr (.tuple #[.agg #[vi ki 0, vi ki 0, .bool false, .string ⟨#[]⟩], vi ki 10]) ∧ Below w.heap.size w w' := by
 have X1 : Hid (Bx ((w.alloc (.cells T.toArray 46)).alloc (.cells #[vi ki 0, vi ki 0, .bool false, .string ⟨#[]⟩] 23)) w.heap.size T) := (Bx.new w _ _).alloc _
 have Y1 : Hid (Bx ((w.alloc (.cells T.toArray 46)).alloc (.cells #[vi ki 0, vi ki 0, .bool false, .string ⟨#[]⟩] 23)) (w.heap.size + 1) [vi ki 0, vi ki 0, .bool false, .string ⟨#[]⟩]) := Bx.newAt _ [vi ki 0, vi ki 0, .bool false, .string ⟨#[]⟩] _ _ (by simp)
 have B1 : Hid (Below w.heap.size w ((w.alloc (.cells T.toArray 46)).alloc (.cells #[vi ki 0, vi ki 0, .bool false, .string ⟨#[]⟩] 23))) := ((Below.refl _ _).alloc (Nat.le_refl _) _).alloc (by simp) _
 go_enter Tryz.func77, Tryz.ntmps77
 generalize hUA : T.toArray = UA at *
 go_upto_region 1 with fail
 refine gen_code (fun V => Bx V w.heap.size T ∧ Bx V (w.heap.size + 1) [vi ki 0, vi ki 0, .bool false, .string ⟨#[]⟩] ∧ Below w.heap.size w V) ⟨X1.out, Y1.out, B1.out⟩ ?_
 clear X1 B1 Y1
 rintro V ⟨XV, YV, BV⟩
 have HX : Hid (Bx V w.heap.size T) := XV
 have HY : Hid (Bx V (w.heap.size + 1) [vi ki 0, vi ki 0, .bool false, .string ⟨#[]⟩]) := YV
 have HB : Hid (Below w.heap.size w V) := BV
 clear XV YV BV
 go_wp2_with (first | (refine wpList_load_mid rfl 46 _ rfl w.heap.size 0 rfl T _ HX.out.all Tryz.underlying46 rfl (by rw [hT]; kernel_rfl) ?_; rw [hUA]) | fail)
 refine (RT.out _ HB.out).mono ?_
 rintro e v1 ⟨rfl, hb⟩
 have HX1 : Hid (Bx v1 w.heap.size T) := HX.out.below hb
 have HY1 : Hid (Bx v1 (w.heap.size + 1) [vi ki 0, vi ki 0, .bool false, .string ⟨#[]⟩]) := HY.out.below hb
 have HB1 : Hid (Below w.heap.size w v1) := HB.out.trans (hb.mono HB.out.size)
 clear hb HX HY HB
 go_wp2_with fail
 refine (AS.out _ HB1.out).mono ?_
 rintro e v9 ⟨rfl, hw⟩
 rw [hw]
 clear hw v9
 have l0 : v1.cell? ⟨w.heap.size + 1, 0, none⟩ = some (vi ki 0) := HY1.out.c 0 rfl
 have z0 : v1.frozen? ⟨w.heap.size + 1, 0, none⟩ = false := HY1.out.f 0 (v := vi ki 0) rfl
 have l1 : v1.cell? ⟨w.heap.size + 1, 1, none⟩ = some (vi ki 0) := HY1.out.c 1 rfl
 have z1 : v1.frozen? ⟨w.heap.size + 1, 1, none⟩ = false := HY1.out.f 1 (v := vi ki 0) rfl
 have l2 : v1.cell? ⟨w.heap.size + 1, 2, none⟩ = some (.bool false) := HY1.out.c 2 rfl
 have z2 : v1.frozen? ⟨w.heap.size + 1, 2, none⟩ = false := HY1.out.f 2 (v := .bool false) rfl
 have l3 : v1.cell? ⟨w.heap.size + 1, 3, none⟩ = some (.string ⟨#[]⟩) := HY1.out.c 3 rfl
 have z3 : v1.frozen? ⟨w.heap.size + 1, 3, none⟩ = false := HY1.out.f 3 (v := .string ⟨#[]⟩) rfl
 have XF : Hid (Bx (v1.setCells (w.heap.size + 1) 0 [vi ki 0, vi ki 0, .bool false, .string ⟨#[]⟩]) (w.heap.size + 1) [vi ki 0, vi ki 0, .bool false, .string ⟨#[]⟩]) := HY1.out.setAll _ rfl
 have BF : Hid (Below w.heap.size w (v1.setCells (w.heap.size + 1) 0 [vi ki 0, vi ki 0, .bool false, .string ⟨#[]⟩])) := below_setCells (by omega) _ _ _ HB1.out
 have y0 := XF.out.c 0 rfl
 have y1 := XF.out.c 1 rfl
 have y2 := XF.out.c 2 rfl
 have y3 := XF.out.c 3 rfl
 simp only [World.setCells, Nat.zero_add, Nat.reduceAdd] at y0 y1 y2 y3
 clear XF
 go_wp2_with fail
 exact bodyPost_ret (v := .tuple #[.agg #[vi ki 0, vi ki 0, .bool false, .string ⟨#[]⟩], vi ki 10]) (by simp [results, Tryz.results77, go_sem, y0, y1, y2, y3]) rfl ⟨rfl, BF.out⟩
theorem zat_yes (T : List Value) (hT : T.length = 25) (t : Int) (x : TrR) (w : World) (RT : Hid (∀ W : World, Below w.heap.size w W → Calls Tryz.prog 16 #[.agg T.toArray] W fun r w' => r = zr (.bool true) ∧ Below W.heap.size W w'))
  (AS : Hid (∀ W : World, Below w.heap.size w W → Calls Tryz.prog 96 #[vi ki t] W fun r w' => r = zr (.bool true) ∧ w' = W))
  (SD : Hid (∀ W : World, Below w.heap.size w W → Calls Tryz.prog 97 #[.agg T.toArray, vi ki t] W fun r w' => r = zr (.agg #[vi ki x.at_, vi ki x.off, .bool x.dst, .string x.ab]) ∧ Below W.heap.size W w')) :
  Calls Tryz.prog 77 #[.agg T.toArray, vi ki t] w fun r w' => r = zr (.tuple #[.agg #[vi ki x.at_, vi ki x.off, .bool x.dst, .string x.ab], vi ki 0]) ∧ Below w.heap.size w w' := by
 have X1 : Hid (Bx ((w.alloc (.cells T.toArray 46)).alloc (.cells #[vi ki 0, vi ki 0, .bool false, .string ⟨#[]⟩] 23)) w.heap.size T) := (Bx.new w _ _).alloc _
 have Y1 : Hid (Bx ((w.alloc (.cells T.toArray 46)).alloc (.cells #[vi ki 0, vi ki 0, .bool false, .string ⟨#[]⟩] 23)) (w.heap.size + 1) [vi ki 0, vi ki 0, .bool false, .string ⟨#[]⟩]) := Bx.newAt _ [vi ki 0, vi ki 0, .bool false, .string ⟨#[]⟩] _ _ (by simp)
 have B1 : Hid (Below w.heap.size w ((w.alloc (.cells T.toArray 46)).alloc (.cells #[vi ki 0, vi ki 0, .bool false, .string ⟨#[]⟩] 23))) := ((Below.refl _ _).alloc (Nat.le_refl _) _).alloc (by simp) _
 go_enter Tryz.func77, Tryz.ntmps77
 generalize hUA : T.toArray = UA at *
 go_upto_region 1 with fail
 refine gen_code (fun V => Bx V w.heap.size T ∧ Bx V (w.heap.size + 1) [vi ki 0, vi ki 0, .bool false, .string ⟨#[]⟩] ∧ Below w.heap.size w V) ⟨X1.out, Y1.out, B1.out⟩ ?_
 clear X1 B1 Y1
 rintro V ⟨XV, YV, BV⟩
 have HX : Hid (Bx V w.heap.size T) := XV
 have HY : Hid (Bx V (w.heap.size + 1) [vi ki 0, vi ki 0, .bool false, .string ⟨#[]⟩]) := YV
 have HB : Hid (Below w.heap.size w V) := BV
 clear XV YV BV
 go_wp2_with (first | (refine wpList_load_mid rfl 46 _ rfl w.heap.size 0 rfl T _ HX.out.all Tryz.underlying46 rfl (by rw [hT]; kernel_rfl) ?_; rw [hUA]) | fail)
 refine (RT.out _ HB.out).mono ?_
 rintro e v1 ⟨rfl, hb⟩
 have HX1 : Hid (Bx v1 w.heap.size T) := HX.out.below hb
 have HY1 : Hid (Bx v1 (w.heap.size + 1) [vi ki 0, vi ki 0, .bool false, .string ⟨#[]⟩]) := HY.out.below hb
 have HB1 : Hid (Below w.heap.size w v1) := HB.out.trans (hb.mono HB.out.size)
 clear hb HX HY HB
 go_wp2_with fail
 refine (AS.out _ HB1.out).mono ?_
 rintro e v9 ⟨rfl, hw⟩
 rw [hw]
 clear hw v9
 go_wp2_with (first | (refine wpList_load_mid rfl 46 _ rfl w.heap.size 0 rfl T _ HX1.out.all Tryz.underlying46 rfl (by rw [hT]; kernel_rfl) ?_; rw [hUA]) | fail)
 refine (SD.out _ HB1.out).mono ?_
 rintro e v2 ⟨rfl, hb⟩
 have HY2 : Hid (Bx v2 (w.heap.size + 1) [vi ki 0, vi ki 0, .bool false, .string ⟨#[]⟩]) := HY1.out.below hb
 have HB2 : Hid (Below w.heap.size w v2) := HB1.out.trans (hb.mono HB1.out.size)
 clear hb HX1 HY1 HB1
 have l0 : v2.cell? ⟨w.heap.size + 1, 0, none⟩ = some (vi ki 0) := HY2.out.c 0 rfl
 have z0 : v2.frozen? ⟨w.heap.size + 1, 0, none⟩ = false := HY2.out.f 0 (v := vi ki 0) rfl
 have l1 : v2.cell? ⟨w.heap.size + 1, 1, none⟩ = some (vi ki 0) := HY2.out.c 1 rfl
 have z1 : v2.frozen? ⟨w.heap.size + 1, 1, none⟩ = false := HY2.out.f 1 (v := vi ki 0) rfl
 have l2 : v2.cell? ⟨w.heap.size + 1, 2, none⟩ = some (.bool false) := HY2.out.c 2 rfl
 have z2 : v2.frozen? ⟨w.heap.size + 1, 2, none⟩ = false := HY2.out.f 2 (v := .bool false) rfl
 have l3 : v2.cell? ⟨w.heap.size + 1, 3, none⟩ = some (.string ⟨#[]⟩) := HY2.out.c 3 rfl
 have z3 : v2.frozen? ⟨w.heap.size + 1, 3, none⟩ = false := HY2.out.f 3 (v := .string ⟨#[]⟩) rfl
 have XF : Hid (Bx (v2.setCells (w.heap.size + 1) 0 [vi ki x.at_, vi ki x.off, .bool x.dst, .string x.ab]) (w.heap.size + 1) [vi ki x.at_, vi ki x.off, .bool x.dst, .string x.ab]) := HY2.out.setAll _ rfl
 have BF : Hid (Below w.heap.size w (v2.setCells (w.heap.size + 1) 0 [vi ki x.at_, vi ki x.off, .bool x.dst, .string x.ab])) := below_setCells (by omega) _ _ _ HB2.out
 have y0 := XF.out.c 0 rfl
 have y1 := XF.out.c 1 rfl
 have y2 := XF.out.c 2 rfl
 have y3 := XF.out.c 3 rfl
 simp only [World.setCells, Nat.zero_add, Nat.reduceAdd] at y0 y1 y2 y3
 clear XF
 go_wp2_with fail
 exact bodyPost_ret (v := .tuple #[.agg #[vi ki x.at_, vi ki x.off, .bool x.dst, .string x.ab], vi ki 0]) (by simp [results, Tryz.results77, go_sem, y0, y1, y2, y3]) rfl ⟨rfl, BF.out⟩
open Go.RowKit
def offB (o : Int) : Bool := decide (-57600 ≤ o) && decide (o ≤ 57600)
theorem isOff_any (o : Int) (w : World) : Calls Tryz.prog 32 #[vi ki o] w fun e w' => e = zr (.bool (offB o)) ∧ w' = w := by
 go_enter Tryz.func32, Tryz.ntmps32
 go_wp2
 all_goals (go_ret; exact ⟨by congr 2; unfold offB; by_cases a1 : -57600 ≤ o <;> by_cases a2 : o ≤ 57600 <;> simp_all <;> omega, rfl⟩)
theorem below_drw (w : World) : Below w.heap.size w w.drew := (Below.refl _ w).drew
def OkTr (L : List TrR) (j : Nat) : Prop := ∃ x, L[j]? = some x ∧ offB x.off = true ∧ -1125899906842624 ≤ x.at_ ∧ x.at_ ≤ 1125899906842624 ∧ (j = 0 ∨ ∃ p, L[j - 1]? = some p ∧ p.at_ < x.at_)
theorem okMore {L : List TrR} {j : Nat} (h : ∀ i, i < j → OkTr L i) (k : OkTr L j) : ∀ i, i < j + 1 → OkTr L i := fun i hi => by
 rcases Nat.lt_or_eq_of_le (Nat.lt_succ_iff.1 hi) with h1 | rfl
 ·exact h i h1
 ·exact k
theorem load_mid_on {P : Program} {ops : Array Oper} {rest : List Oper} {op : Oper} {a : Act} {w : World} {Q : Exit → Act → World → Prop} (hgd : Region.wanted op (yielded ops a.tmps) = true) (ty : TypeId) (x : Operand) (ho : op.op = .load ty x)
  (b o : Nat) (hx : a.eval x = .pointer (some ⟨b, o, none⟩)) (cs : List Value) (d : TypeDesc) (hc : w.rangeAt b o cs)
  (hu : P.underlying ty = some d) (hd : d.isRow = true) (hi : (P.info? ty).map (·.size) = some cs.length)
  (h : wpList P ops Q rest (a.put op.dst (.agg cs.toArray)) w) : wpList P ops Q (op :: rest) a w := by
 unfold wpList
 rw [if_pos hgd]
 exact .inl (wp_load_mid ty x ho b o hx cs d hc hu hd hi h)
theorem right_gen (nm : ByteArray) (f : TrR) (sv : Value) (FL : List Value) (hF : FL.length = 19) (L : List TrR) (z b r : Bool) (h1 : f.at_ = 0) (h2 : offB f.off = true) (h3 : L.length ≤ 4096) (hno : (∃ j, j < L.length ∧ ¬ OkTr L j) → b = false)
  (hyes : (∀ j, j < L.length → OkTr L j) → b = (z || r)) (hEQ : ∀ W : World, (Op.equalIn 10000 44 (.agg FL.toArray) (.agg #[.bool false, vi ki 0, vi ki 0, vi ki 0, vi ki 0, vi ki 0, vi ki 0, vi ki 0, .int .u8 0, vi ki 0, .string ⟨#[]⟩, vi ki 0, vi ki 0, vi ki 0, vi ki 0, vi ki 0, .int .u8 0, vi ki 0, .string ⟨#[]⟩])).run Tryz.prog W = .ok z W) (w : World) (HT : Hid (TrAt w sv L))
  (RF : Hid (z = false → ∀ W : World, Below w.heap.size w W → Calls Tryz.prog 33 #[.agg (tbF nm f sv FL).toArray] W fun e w' => e = zr (.bool r) ∧ Below W.heap.size W w')) :
  Calls Tryz.prog 16 #[.agg (tbF nm f sv FL).toArray] w fun e w' => e = zr (.bool b) ∧ Below w.heap.size w w' := by
 have X1 : Hid (Bx (w.alloc (.cells (tbF nm f sv FL).toArray 46)) w.heap.size (tbF nm f sv FL)) := Bx.new w (tbF nm f sv FL) 46
 have B1 : Hid (Below w.heap.size w (w.alloc (.cells (tbF nm f sv FL).toArray 46))) := (Below.refl _ _).alloc (Nat.le_refl _) _
 obtain ⟨⟨ao, c, hsv⟩, hml, _⟩ := HT.out
 obtain ⟨n, hn⟩ : ∃ n, L.length = n := ⟨_, rfl⟩
 rw [hn] at hsv hml h3 hno hyes
 subst hsv
 clear hml
 go_enter Tryz.func16, Tryz.ntmps16
 generalize hUA : (tbF nm f (.slice ao n c) FL).toArray = UA at *
 go_upto_region 1 with fail
 refine gen_code (fun V => Bx V w.heap.size (tbF nm f (.slice ao n c) FL) ∧ Below w.heap.size w V) ⟨X1.out, B1.out⟩ ?_
 clear X1 B1
 rintro V ⟨XV, BV⟩
 have c1 := XV.c 1 (v := vi ki 0) (by rw [← h1]; rfl)
 have c2 := XV.c 2 (v := vi ki f.off) rfl
 have c5 := XV.c 5 (v := (.slice ao n c)) rfl
 have HX : Hid (Bx V w.heap.size (tbF nm f (.slice ao n c) FL)) := XV
 have HB : Hid (Below w.heap.size w V) := BV
 clear XV BV h1
 go_wp2_with fail
 refine (isOff_any _ _).mono ?_
 rintro e v1 ⟨rfl, hv1⟩
 obtain rfl := hv1.symm
 clear hv1
 rw [h2]
 go_wp2_with fail
 go_loopw [25] (fun iv wr => ∃ j : Nat, iv = vi ki (j : Int) ∧ j ≤ n ∧ Hid (Bx wr w.heap.size (tbF nm f (.slice ao n c) FL)) ∧ Hid (Below w.heap.size w wr) ∧ Hid (∀ i, i < j → OkTr L i)) (fun iv _ => n - (intOf iv).toNat)
 case atStart => exact ⟨0, rfl, Nat.zero_le _, HX, HB, fun i hi => by omega⟩
 case round =>
  clear HX HB c1 c2 c5
  obtain ⟨j, rfl, hj, HX, HB, HOK⟩ := hrel
  by_cases hjn : j < n
  ·obtain ⟨x, hx⟩ : ∃ x, L[j]? = some x := ⟨_, List.getElem?_eq_getElem (by omega)⟩
   have HTW : Hid (TrAt wr (.slice ao n c) L) := HT.out.mv (HB.out.mono (Nat.le_refl _))
   obtain ⟨g, o, c', hsv, hrg⟩ := HTW.out.row hx
   rw [hn] at hsv
   simp only [Value.slice.injEq, true_and] at hsv
   obtain ⟨rfl, rfl⟩ := hsv
   obtain ⟨p, hp0⟩ : ∃ p, 0 < j → L[j - 1]? = some p ∧ wr.cell? ⟨g, o + (j - 1) * 4, none⟩ = some (vi ki p.at_) := by
    by_cases hj0 : 0 < j
    ·obtain ⟨p, hp⟩ : ∃ p, L[j - 1]? = some p := ⟨_, List.getElem?_eq_getElem (by omega)⟩
     obtain ⟨g2, o2, c2, hs2, hr2⟩ := HTW.out.row hp
     simp only [Value.slice.injEq, Option.some.injEq, Addr.mk.injEq, and_true] at hs2
     obtain ⟨⟨rfl, rfl⟩, _⟩ := hs2
     exact ⟨p, fun _ => ⟨hp, hr2 0 _ rfl⟩⟩
    ·exact ⟨x, fun h => absurd h hj0⟩
   obtain ⟨q, hq⟩ : ∃ q, p.at_ = q := ⟨_, rfl⟩
   rw [hq] at hp0
   have HRG : Hid (wr.rangeAt g (o + j * 4) (trC x)) := hrg
   have HP0 : Hid (0 < j → L[j - 1]? = some p ∧ wr.cell? ⟨g, o + (j - 1) * 4, none⟩ = some (vi ki q)) := hp0
   have HXX : Hid (L[j]? = some x) := hx
   have XN : Hid (Bx (wr.alloc (.cells #[vi ki x.at_, vi ki x.off, .bool x.dst, .string x.ab] 23)) wr.heap.size [vi ki x.at_, vi ki x.off, .bool x.dst, .string x.ab]) := Bx.new wr [vi ki x.at_, vi ki x.off, .bool x.dst, .string x.ab] 23
   clear hrg hx hp0
   go_upto_region 6 with (first | (refine wpList_load_mid rfl 23 _ rfl g (o + j * 4) rfl [vi ki x.at_, vi ki x.off, .bool x.dst, .string x.ab] _ HRG.out Tryz.underlying23 rfl (by kernel_rfl) ?_) | fail)
   refine gen_code (fun V => (fun W : World => W.cell? ⟨wr.heap.size, 0, none⟩ = some (vi ki x.at_) ∧ W.cell? ⟨wr.heap.size, 1, none⟩ = some (vi ki x.off) ∧ W.cell? ⟨w.heap.size, 5, none⟩ = some (.slice (some ⟨g, o, none⟩) n c) ∧ (0 < j → W.cell? ⟨g, o + (j - 1) * 4, none⟩ = some (vi ki q))) V ∧ Bx V w.heap.size (tbF nm f (.slice (some ⟨g, o, none⟩) n c) FL) ∧ Below w.heap.size w V) ⟨⟨XN.out.c 0 rfl, XN.out.c 1 rfl, (HX.out.alloc _).c 5 rfl, fun h => ((Below.refl _ wr).alloc (Nat.le_refl _) _ |>.cell (p := ⟨g, o + (j - 1) * 4, none⟩) (World.block_lt_of_cell? wr _ (HP0.out h).2)).trans (HP0.out h).2⟩, HX.out.alloc _, HB.out.alloc HB.out.size _⟩ ?_
   clear HX HB XN HRG HTW
   rintro V6 ⟨h6, X6, B6⟩
   have HS6 : Hid ((fun W : World => W.cell? ⟨wr.heap.size, 0, none⟩ = some (vi ki x.at_) ∧ W.cell? ⟨wr.heap.size, 1, none⟩ = some (vi ki x.off) ∧ W.cell? ⟨w.heap.size, 5, none⟩ = some (.slice (some ⟨g, o, none⟩) n c) ∧ (0 < j → W.cell? ⟨g, o + (j - 1) * 4, none⟩ = some (vi ki q))) V6) := h6
   have hx := HXX.out
   have HBW : Below w.heap.size w V6.drew := B6.trans ((below_drw _).mono B6.size)
   have HXW : Bx V6.drew w.heap.size (tbF nm f (.slice (some ⟨g, o, none⟩) n c) FL) := X6.below (below_drw _)
   clear h6 X6 B6
   cases hO : offB x.off
   ·skip
    have HNO : ¬ OkTr L j := fun ⟨x', e', k1, k2, k3, k4⟩ => by (rw [hx] at e'; cases e'; rw [hO] at k1; cases k1)
    refine wp_region_held_drew (S := (fun W : World => W.cell? ⟨wr.heap.size, 0, none⟩ = some (vi ki x.at_) ∧ W.cell? ⟨wr.heap.size, 1, none⟩ = some (vi ki x.off) ∧ W.cell? ⟨w.heap.size, 5, none⟩ = some (.slice (some ⟨g, o, none⟩) n c) ∧ (0 < j → W.cell? ⟨g, o + (j - 1) * 4, none⟩ = some (vi ki q)))) (by kernel_rfl) (by simpa [go_sem] using HS6.out) (fun hHeld => ?_)
    refine tk (v := ?_) 0 ⟨some 30, _, _, _, _, none⟩ rfl ?_ ?_
    case refine_2 => (rintro w9 -; (go_simp); (try omega); (try (intro h9; exact absurd (h9 (by omega)) (by omega))); try with_reducible rfl)
    simp only [za, zb, zc, zd]
    refine tk (v := ?_) 1 ⟨some 31, _, _, _, _, none⟩ rfl ?_ ?_
    case refine_2 => (intro w9 hSw; obtain ⟨s1, s2, s3, s4⟩ := hSw; (go_simp); (try omega); (try (intro h9; exact absurd (h9 (by omega)) (by omega))); try with_reducible rfl)
    simp only [za, zb, zc, zd]
    refine rd 2 ⟨some 32, _, _, _, _, none⟩ rfl (fun K hK => ?_)
    go_simp
    refine (isOff_any _ _).mono ?_
    rintro e v1 ⟨rfl, hv1⟩
    obtain rfl := hv1.symm
    rw [hO]
    refine hK.out _ _ hHeld (fun hHeld => ?_)
    clear hK K
    refine tk (v := ?_) 3 ⟨some 33, _, _, _, _, none⟩ rfl ?_ ?_
    case refine_2 => (rintro w9 -; (go_simp); (try omega); (try (intro h9; exact absurd (h9 (by omega)) (by omega))); try with_reducible rfl)
    simp only [za, zb, zc, zd]
    refine tk (v := ?_) 4 ⟨some 34, _, _, _, _, none⟩ rfl ?_ ?_
    case refine_2 => (rintro w9 -; (go_simp); (try omega); (try (intro h9; exact absurd (h9 (by omega)) (by omega))); try with_reducible rfl)
    simp only [za, zb, zc, zd]
    refine tku 5 ⟨some 35, _, _, _, _, some (4, false)⟩ rfl ?_
    simp only [za, zb, zc, zd]
    refine tku 6 ⟨some 36, _, _, _, _, some (4, false)⟩ rfl ?_
    simp only [za, zb, zc, zd]
    refine tku 7 ⟨some 37, _, _, _, _, some (4, false)⟩ rfl ?_
    simp only [za, zb, zc, zd]
    refine tk (v := ?_) 8 ⟨some 38, _, _, _, _, none⟩ rfl ?_ ?_
    case refine_2 => (rintro w9 -; (go_simp); (try omega); (try (intro h9; exact absurd (h9 (by omega)) (by omega))); try with_reducible rfl)
    simp only [za, zb, zc, zd]
    refine tk (v := ?_) 9 ⟨some 39, _, _, _, _, none⟩ rfl ?_ ?_
    case refine_2 => (rintro w9 -; (go_simp); (try omega); (try (intro h9; exact absurd (h9 (by omega)) (by omega))); try with_reducible rfl)
    simp only [za, zb, zc, zd]
    refine tku 10 ⟨some 40, _, _, _, _, some (9, false)⟩ rfl ?_
    simp only [za, zb, zc, zd]
    refine tku 11 ⟨some 41, _, _, _, _, some (9, false)⟩ rfl ?_
    simp only [za, zb, zc, zd]
    refine tku 12 ⟨some 42, _, _, _, _, some (9, false)⟩ rfl ?_
    simp only [za, zb, zc, zd]
    refine tk (v := ?_) 13 ⟨some 43, _, _, _, _, none⟩ rfl ?_ ?_
    case refine_2 => (rintro w9 -; (go_simp); (try omega); (try (intro h9; exact absurd (h9 (by omega)) (by omega))); try with_reducible rfl)
    simp only [za, zb, zc, zd]
    refine tk (v := ?_) 14 ⟨some 44, _, _, _, _, none⟩ rfl ?_ ?_
    case refine_2 => (rintro w9 -; (go_simp); (try omega); (try (intro h9; exact absurd (h9 (by omega)) (by omega))); try with_reducible rfl)
    simp only [za, zb, zc, zd]
    refine tku 15 ⟨some 45, _, _, _, _, some (14, false)⟩ rfl ?_
    simp only [za, zb, zc, zd]
    refine tku 16 ⟨some 46, _, _, _, _, some (14, false)⟩ rfl ?_
    simp only [za, zb, zc, zd]
    refine tku 17 ⟨some 47, _, _, _, _, some (14, false)⟩ rfl ?_
    simp only [za, zb, zc, zd]
    refine tku 18 ⟨some 48, _, _, _, _, some (17, true)⟩ rfl ?_
    simp only [za, zb, zc, zd]
    refine tku 19 ⟨some 49, _, _, _, _, some (17, true)⟩ rfl ?_
    simp only [za, zb, zc, zd]
    refine tku 20 ⟨some 50, _, _, _, _, some (17, true)⟩ rfl ?_
    simp only [za, zb, zc, zd]
    refine tku 21 ⟨some 51, _, _, _, _, some (17, true)⟩ rfl ?_
    simp only [za, zb, zc, zd]
    refine tku 22 ⟨some 52, _, _, _, _, some (17, true)⟩ rfl ?_
    simp only [za, zb, zc, zd]
    refine tku 23 ⟨some 53, _, _, _, _, some (17, true)⟩ rfl ?_
    simp only [za, zb, zc, zd]
    refine tku 24 ⟨some 54, _, _, _, _, some (17, true)⟩ rfl ?_
    simp only [za, zb, zc, zd]
    refine tku 25 ⟨some 55, _, _, _, _, some (17, true)⟩ rfl ?_
    simp only [za, zb, zc, zd]
    refine tku 26 ⟨some 56, _, _, _, _, some (17, true)⟩ rfl ?_
    simp only [za, zb, zc, zd]
    refine tku 27 ⟨some 57, _, _, _, _, some (17, true)⟩ rfl ?_
    simp only [za, zb, zc, zd]
    refine tku 28 ⟨some 58, _, _, _, _, some (14, false)⟩ rfl ?_
    simp only [za, zb, zc, zd]
    refine tk (v := ?_) 29 ⟨some 59, _, _, _, _, none⟩ rfl ?_ ?_
    case refine_2 => (rintro w9 -; (go_simp); (try omega); (try (intro h9; exact absurd (h9 (by omega)) (by omega))); try with_reducible rfl)
    simp only [za, zb, zc, zd]
    refine wpAnyH_done (by kernel_rfl) ?_ _
    go_wp2_with fail
    exact bodyPost_ret (v := .bool false) (by simp [results, Tryz.results16, go_sem]) rfl ⟨ret_b9 (hno ⟨j, hjn, HNO⟩).symm, HBW⟩
   by_cases ha : x.at_ < -1125899906842624
   ·skip
    have HNO : ¬ OkTr L j := fun ⟨x', e', k1, k2, k3, k4⟩ => by (rw [hx] at e'; cases e'; omega)
    refine wp_region_held_drew (S := (fun W : World => W.cell? ⟨wr.heap.size, 0, none⟩ = some (vi ki x.at_) ∧ W.cell? ⟨wr.heap.size, 1, none⟩ = some (vi ki x.off) ∧ W.cell? ⟨w.heap.size, 5, none⟩ = some (.slice (some ⟨g, o, none⟩) n c) ∧ (0 < j → W.cell? ⟨g, o + (j - 1) * 4, none⟩ = some (vi ki q)))) (by kernel_rfl) (by simpa [go_sem] using HS6.out) (fun hHeld => ?_)
    refine tk (v := ?_) 0 ⟨some 30, _, _, _, _, none⟩ rfl ?_ ?_
    case refine_2 => (rintro w9 -; (go_simp); (try omega); (try (intro h9; exact absurd (h9 (by omega)) (by omega))); try with_reducible rfl)
    simp only [za, zb, zc, zd]
    refine tk (v := ?_) 1 ⟨some 31, _, _, _, _, none⟩ rfl ?_ ?_
    case refine_2 => (intro w9 hSw; obtain ⟨s1, s2, s3, s4⟩ := hSw; (go_simp); (try omega); (try (intro h9; exact absurd (h9 (by omega)) (by omega))); try with_reducible rfl)
    simp only [za, zb, zc, zd]
    refine rd 2 ⟨some 32, _, _, _, _, none⟩ rfl (fun K hK => ?_)
    go_simp
    refine (isOff_any _ _).mono ?_
    rintro e v1 ⟨rfl, hv1⟩
    obtain rfl := hv1.symm
    rw [hO]
    refine hK.out _ _ hHeld (fun hHeld => ?_)
    clear hK K
    refine tk (v := ?_) 3 ⟨some 33, _, _, _, _, none⟩ rfl ?_ ?_
    case refine_2 => (rintro w9 -; (go_simp); (try omega); (try (intro h9; exact absurd (h9 (by omega)) (by omega))); try with_reducible rfl)
    simp only [za, zb, zc, zd]
    refine tk (v := ?_) 4 ⟨some 34, _, _, _, _, none⟩ rfl ?_ ?_
    case refine_2 => (rintro w9 -; (go_simp); (try omega); (try (intro h9; exact absurd (h9 (by omega)) (by omega))); try with_reducible rfl)
    simp only [za, zb, zc, zd]
    refine tk (v := ?_) 5 ⟨some 35, _, _, _, _, some (4, false)⟩ rfl ?_ ?_
    case refine_2 => (rintro w9 -; (go_simp); (try omega); (try (intro h9; exact absurd (h9 (by omega)) (by omega))); try with_reducible rfl)
    simp only [za, zb, zc, zd]
    refine tk (v := ?_) 6 ⟨some 36, _, _, _, _, some (4, false)⟩ rfl ?_ ?_
    case refine_2 => (intro w9 hSw; obtain ⟨s1, s2, s3, s4⟩ := hSw; (go_simp); (try omega); (try (intro h9; exact absurd (h9 (by omega)) (by omega))); try with_reducible rfl)
    simp only [za, zb, zc, zd]
    refine tk (v := ?_) 7 ⟨some 37, _, _, _, _, some (4, false)⟩ rfl ?_ ?_
    case refine_2 => (rintro w9 -; (go_simp); (try omega); (try (intro h9; exact absurd (h9 (by omega)) (by omega))); try with_reducible rfl)
    simp only [za, zb, zc, zd]
    refine tk (v := ?_) 8 ⟨some 38, _, _, _, _, none⟩ rfl ?_ ?_
    case refine_2 => (rintro w9 -; (go_simp); (try omega); (try (intro h9; exact absurd (h9 (by omega)) (by omega))); try with_reducible rfl)
    simp only [za, zb, zc, zd]
    refine tk (v := ?_) 9 ⟨some 39, _, _, _, _, none⟩ rfl ?_ ?_
    case refine_2 => (rintro w9 -; (go_simp); (try omega); (try (intro h9; exact absurd (h9 (by omega)) (by omega))); try with_reducible rfl)
    simp only [za, zb, zc, zd]
    refine tku 10 ⟨some 40, _, _, _, _, some (9, false)⟩ rfl ?_
    simp only [za, zb, zc, zd]
    refine tku 11 ⟨some 41, _, _, _, _, some (9, false)⟩ rfl ?_
    simp only [za, zb, zc, zd]
    refine tku 12 ⟨some 42, _, _, _, _, some (9, false)⟩ rfl ?_
    simp only [za, zb, zc, zd]
    refine tk (v := ?_) 13 ⟨some 43, _, _, _, _, none⟩ rfl ?_ ?_
    case refine_2 => (rintro w9 -; (go_simp); (try omega); (try (intro h9; exact absurd (h9 (by omega)) (by omega))); try with_reducible rfl)
    simp only [za, zb, zc, zd]
    refine tk (v := ?_) 14 ⟨some 44, _, _, _, _, none⟩ rfl ?_ ?_
    case refine_2 => (rintro w9 -; (go_simp); (try omega); (try (intro h9; exact absurd (h9 (by omega)) (by omega))); try with_reducible rfl)
    simp only [za, zb, zc, zd]
    refine tku 15 ⟨some 45, _, _, _, _, some (14, false)⟩ rfl ?_
    simp only [za, zb, zc, zd]
    refine tku 16 ⟨some 46, _, _, _, _, some (14, false)⟩ rfl ?_
    simp only [za, zb, zc, zd]
    refine tku 17 ⟨some 47, _, _, _, _, some (14, false)⟩ rfl ?_
    simp only [za, zb, zc, zd]
    refine tku 18 ⟨some 48, _, _, _, _, some (17, true)⟩ rfl ?_
    simp only [za, zb, zc, zd]
    refine tku 19 ⟨some 49, _, _, _, _, some (17, true)⟩ rfl ?_
    simp only [za, zb, zc, zd]
    refine tku 20 ⟨some 50, _, _, _, _, some (17, true)⟩ rfl ?_
    simp only [za, zb, zc, zd]
    refine tku 21 ⟨some 51, _, _, _, _, some (17, true)⟩ rfl ?_
    simp only [za, zb, zc, zd]
    refine tku 22 ⟨some 52, _, _, _, _, some (17, true)⟩ rfl ?_
    simp only [za, zb, zc, zd]
    refine tku 23 ⟨some 53, _, _, _, _, some (17, true)⟩ rfl ?_
    simp only [za, zb, zc, zd]
    refine tku 24 ⟨some 54, _, _, _, _, some (17, true)⟩ rfl ?_
    simp only [za, zb, zc, zd]
    refine tku 25 ⟨some 55, _, _, _, _, some (17, true)⟩ rfl ?_
    simp only [za, zb, zc, zd]
    refine tku 26 ⟨some 56, _, _, _, _, some (17, true)⟩ rfl ?_
    simp only [za, zb, zc, zd]
    refine tku 27 ⟨some 57, _, _, _, _, some (17, true)⟩ rfl ?_
    simp only [za, zb, zc, zd]
    refine tku 28 ⟨some 58, _, _, _, _, some (14, false)⟩ rfl ?_
    simp only [za, zb, zc, zd]
    refine tk (v := ?_) 29 ⟨some 59, _, _, _, _, none⟩ rfl ?_ ?_
    case refine_2 => (rintro w9 -; (go_simp); (try omega); (try (intro h9; exact absurd (h9 (by omega)) (by omega))); try with_reducible rfl)
    simp only [za, zb, zc, zd]
    refine wpAnyH_done (by kernel_rfl) ?_ _
    go_wp2_with fail
    exact bodyPost_ret (v := .bool false) (by simp [results, Tryz.results16, go_sem]) rfl ⟨ret_b9 (hno ⟨j, hjn, HNO⟩).symm, HBW⟩
   by_cases hb : 1125899906842624 < x.at_
   ·skip
    have HNO : ¬ OkTr L j := fun ⟨x', e', k1, k2, k3, k4⟩ => by (rw [hx] at e'; cases e'; omega)
    refine wp_region_held_drew (S := (fun W : World => W.cell? ⟨wr.heap.size, 0, none⟩ = some (vi ki x.at_) ∧ W.cell? ⟨wr.heap.size, 1, none⟩ = some (vi ki x.off) ∧ W.cell? ⟨w.heap.size, 5, none⟩ = some (.slice (some ⟨g, o, none⟩) n c) ∧ (0 < j → W.cell? ⟨g, o + (j - 1) * 4, none⟩ = some (vi ki q)))) (by kernel_rfl) (by simpa [go_sem] using HS6.out) (fun hHeld => ?_)
    refine tk (v := ?_) 0 ⟨some 30, _, _, _, _, none⟩ rfl ?_ ?_
    case refine_2 => (rintro w9 -; (go_simp); (try omega); (try (intro h9; exact absurd (h9 (by omega)) (by omega))); try with_reducible rfl)
    simp only [za, zb, zc, zd]
    refine tk (v := ?_) 1 ⟨some 31, _, _, _, _, none⟩ rfl ?_ ?_
    case refine_2 => (intro w9 hSw; obtain ⟨s1, s2, s3, s4⟩ := hSw; (go_simp); (try omega); (try (intro h9; exact absurd (h9 (by omega)) (by omega))); try with_reducible rfl)
    simp only [za, zb, zc, zd]
    refine rd 2 ⟨some 32, _, _, _, _, none⟩ rfl (fun K hK => ?_)
    go_simp
    refine (isOff_any _ _).mono ?_
    rintro e v1 ⟨rfl, hv1⟩
    obtain rfl := hv1.symm
    rw [hO]
    refine hK.out _ _ hHeld (fun hHeld => ?_)
    clear hK K
    refine tk (v := ?_) 3 ⟨some 33, _, _, _, _, none⟩ rfl ?_ ?_
    case refine_2 => (rintro w9 -; (go_simp); (try omega); (try (intro h9; exact absurd (h9 (by omega)) (by omega))); try with_reducible rfl)
    simp only [za, zb, zc, zd]
    refine tk (v := ?_) 4 ⟨some 34, _, _, _, _, none⟩ rfl ?_ ?_
    case refine_2 => (rintro w9 -; (go_simp); (try omega); (try (intro h9; exact absurd (h9 (by omega)) (by omega))); try with_reducible rfl)
    simp only [za, zb, zc, zd]
    refine tk (v := ?_) 5 ⟨some 35, _, _, _, _, some (4, false)⟩ rfl ?_ ?_
    case refine_2 => (rintro w9 -; (go_simp); (try omega); (try (intro h9; exact absurd (h9 (by omega)) (by omega))); try with_reducible rfl)
    simp only [za, zb, zc, zd]
    refine tk (v := ?_) 6 ⟨some 36, _, _, _, _, some (4, false)⟩ rfl ?_ ?_
    case refine_2 => (intro w9 hSw; obtain ⟨s1, s2, s3, s4⟩ := hSw; (go_simp); (try omega); (try (intro h9; exact absurd (h9 (by omega)) (by omega))); try with_reducible rfl)
    simp only [za, zb, zc, zd]
    refine tk (v := ?_) 7 ⟨some 37, _, _, _, _, some (4, false)⟩ rfl ?_ ?_
    case refine_2 => (rintro w9 -; (go_simp); (try omega); (try (intro h9; exact absurd (h9 (by omega)) (by omega))); try with_reducible rfl)
    simp only [za, zb, zc, zd]
    refine tk (v := ?_) 8 ⟨some 38, _, _, _, _, none⟩ rfl ?_ ?_
    case refine_2 => (rintro w9 -; (go_simp); (try omega); (try (intro h9; exact absurd (h9 (by omega)) (by omega))); try with_reducible rfl)
    simp only [za, zb, zc, zd]
    refine tk (v := ?_) 9 ⟨some 39, _, _, _, _, none⟩ rfl ?_ ?_
    case refine_2 => (rintro w9 -; (go_simp); (try omega); (try (intro h9; exact absurd (h9 (by omega)) (by omega))); try with_reducible rfl)
    simp only [za, zb, zc, zd]
    refine tk (v := ?_) 10 ⟨some 40, _, _, _, _, some (9, false)⟩ rfl ?_ ?_
    case refine_2 => (rintro w9 -; (go_simp); (try omega); (try (intro h9; exact absurd (h9 (by omega)) (by omega))); try with_reducible rfl)
    simp only [za, zb, zc, zd]
    refine tk (v := ?_) 11 ⟨some 41, _, _, _, _, some (9, false)⟩ rfl ?_ ?_
    case refine_2 => (intro w9 hSw; obtain ⟨s1, s2, s3, s4⟩ := hSw; (go_simp); (try omega); (try (intro h9; exact absurd (h9 (by omega)) (by omega))); try with_reducible rfl)
    simp only [za, zb, zc, zd]
    refine tk (v := ?_) 12 ⟨some 42, _, _, _, _, some (9, false)⟩ rfl ?_ ?_
    case refine_2 => (rintro w9 -; (go_simp); (try omega); (try (intro h9; exact absurd (h9 (by omega)) (by omega))); try with_reducible rfl)
    simp only [za, zb, zc, zd]
    refine tk (v := ?_) 13 ⟨some 43, _, _, _, _, none⟩ rfl ?_ ?_
    case refine_2 => (rintro w9 -; (go_simp); (try omega); (try (intro h9; exact absurd (h9 (by omega)) (by omega))); try with_reducible rfl)
    simp only [za, zb, zc, zd]
    refine tk (v := ?_) 14 ⟨some 44, _, _, _, _, none⟩ rfl ?_ ?_
    case refine_2 => (rintro w9 -; (go_simp); (try omega); (try (intro h9; exact absurd (h9 (by omega)) (by omega))); try with_reducible rfl)
    simp only [za, zb, zc, zd]
    refine tku 15 ⟨some 45, _, _, _, _, some (14, false)⟩ rfl ?_
    simp only [za, zb, zc, zd]
    refine tku 16 ⟨some 46, _, _, _, _, some (14, false)⟩ rfl ?_
    simp only [za, zb, zc, zd]
    refine tku 17 ⟨some 47, _, _, _, _, some (14, false)⟩ rfl ?_
    simp only [za, zb, zc, zd]
    refine tku 18 ⟨some 48, _, _, _, _, some (17, true)⟩ rfl ?_
    simp only [za, zb, zc, zd]
    refine tku 19 ⟨some 49, _, _, _, _, some (17, true)⟩ rfl ?_
    simp only [za, zb, zc, zd]
    refine tku 20 ⟨some 50, _, _, _, _, some (17, true)⟩ rfl ?_
    simp only [za, zb, zc, zd]
    refine tku 21 ⟨some 51, _, _, _, _, some (17, true)⟩ rfl ?_
    simp only [za, zb, zc, zd]
    refine tku 22 ⟨some 52, _, _, _, _, some (17, true)⟩ rfl ?_
    simp only [za, zb, zc, zd]
    refine tku 23 ⟨some 53, _, _, _, _, some (17, true)⟩ rfl ?_
    simp only [za, zb, zc, zd]
    refine tku 24 ⟨some 54, _, _, _, _, some (17, true)⟩ rfl ?_
    simp only [za, zb, zc, zd]
    refine tku 25 ⟨some 55, _, _, _, _, some (17, true)⟩ rfl ?_
    simp only [za, zb, zc, zd]
    refine tku 26 ⟨some 56, _, _, _, _, some (17, true)⟩ rfl ?_
    simp only [za, zb, zc, zd]
    refine tku 27 ⟨some 57, _, _, _, _, some (17, true)⟩ rfl ?_
    simp only [za, zb, zc, zd]
    refine tku 28 ⟨some 58, _, _, _, _, some (14, false)⟩ rfl ?_
    simp only [za, zb, zc, zd]
    refine tk (v := ?_) 29 ⟨some 59, _, _, _, _, none⟩ rfl ?_ ?_
    case refine_2 => (rintro w9 -; (go_simp); (try omega); (try (intro h9; exact absurd (h9 (by omega)) (by omega))); try with_reducible rfl)
    simp only [za, zb, zc, zd]
    refine wpAnyH_done (by kernel_rfl) ?_ _
    go_wp2_with fail
    exact bodyPost_ret (v := .bool false) (by simp [results, Tryz.results16, go_sem]) rfl ⟨ret_b9 (hno ⟨j, hjn, HNO⟩).symm, HBW⟩
   have hwj : IntKind.i64.wrap ((j : Int) - 1) = (j : Int) - 1 := by rw [IntKind.wrap_i64]; omega
   by_cases hj0 : j = 0
   ·skip
    have HOK2 : Hid (∀ i, i < j + 1 → OkTr L i) := okMore HOK.out ⟨x, hx, hO, by omega, by omega, .inl hj0⟩
    refine wp_region_held_drew (S := (fun W : World => W.cell? ⟨wr.heap.size, 0, none⟩ = some (vi ki x.at_) ∧ W.cell? ⟨wr.heap.size, 1, none⟩ = some (vi ki x.off) ∧ W.cell? ⟨w.heap.size, 5, none⟩ = some (.slice (some ⟨g, o, none⟩) n c) ∧ (0 < j → W.cell? ⟨g, o + (j - 1) * 4, none⟩ = some (vi ki q)))) (by kernel_rfl) (by simpa [go_sem] using HS6.out) (fun hHeld => ?_)
    refine tk (v := ?_) 0 ⟨some 30, _, _, _, _, none⟩ rfl ?_ ?_
    case refine_2 => (rintro w9 -; (go_simp); (try omega); (try (intro h9; exact absurd (h9 (by omega)) (by omega))); try with_reducible rfl)
    simp only [za, zb, zc, zd]
    refine tk (v := ?_) 1 ⟨some 31, _, _, _, _, none⟩ rfl ?_ ?_
    case refine_2 => (intro w9 hSw; obtain ⟨s1, s2, s3, s4⟩ := hSw; (go_simp); (try omega); (try (intro h9; exact absurd (h9 (by omega)) (by omega))); try with_reducible rfl)
    simp only [za, zb, zc, zd]
    refine rd 2 ⟨some 32, _, _, _, _, none⟩ rfl (fun K hK => ?_)
    go_simp
    refine (isOff_any _ _).mono ?_
    rintro e v1 ⟨rfl, hv1⟩
    obtain rfl := hv1.symm
    rw [hO]
    refine hK.out _ _ hHeld (fun hHeld => ?_)
    clear hK K
    refine tk (v := ?_) 3 ⟨some 33, _, _, _, _, none⟩ rfl ?_ ?_
    case refine_2 => (rintro w9 -; (go_simp); (try omega); (try (intro h9; exact absurd (h9 (by omega)) (by omega))); try with_reducible rfl)
    simp only [za, zb, zc, zd]
    refine tk (v := ?_) 4 ⟨some 34, _, _, _, _, none⟩ rfl ?_ ?_
    case refine_2 => (rintro w9 -; (go_simp); (try omega); (try (intro h9; exact absurd (h9 (by omega)) (by omega))); try with_reducible rfl)
    simp only [za, zb, zc, zd]
    refine tk (v := ?_) 5 ⟨some 35, _, _, _, _, some (4, false)⟩ rfl ?_ ?_
    case refine_2 => (rintro w9 -; (go_simp); (try omega); (try (intro h9; exact absurd (h9 (by omega)) (by omega))); try with_reducible rfl)
    simp only [za, zb, zc, zd]
    refine tk (v := ?_) 6 ⟨some 36, _, _, _, _, some (4, false)⟩ rfl ?_ ?_
    case refine_2 => (intro w9 hSw; obtain ⟨s1, s2, s3, s4⟩ := hSw; (go_simp); (try omega); (try (intro h9; exact absurd (h9 (by omega)) (by omega))); try with_reducible rfl)
    simp only [za, zb, zc, zd]
    refine tk (v := ?_) 7 ⟨some 37, _, _, _, _, some (4, false)⟩ rfl ?_ ?_
    case refine_2 => (rintro w9 -; (go_simp); (try omega); (try (intro h9; exact absurd (h9 (by omega)) (by omega))); try with_reducible rfl)
    simp only [za, zb, zc, zd]
    refine tk (v := ?_) 8 ⟨some 38, _, _, _, _, none⟩ rfl ?_ ?_
    case refine_2 => (rintro w9 -; (go_simp); (try omega); (try (intro h9; exact absurd (h9 (by omega)) (by omega))); try with_reducible rfl)
    simp only [za, zb, zc, zd]
    refine tk (v := ?_) 9 ⟨some 39, _, _, _, _, none⟩ rfl ?_ ?_
    case refine_2 => (rintro w9 -; (go_simp); (try omega); (try (intro h9; exact absurd (h9 (by omega)) (by omega))); try with_reducible rfl)
    simp only [za, zb, zc, zd]
    refine tk (v := ?_) 10 ⟨some 40, _, _, _, _, some (9, false)⟩ rfl ?_ ?_
    case refine_2 => (rintro w9 -; (go_simp); (try omega); (try (intro h9; exact absurd (h9 (by omega)) (by omega))); try with_reducible rfl)
    simp only [za, zb, zc, zd]
    refine tk (v := ?_) 11 ⟨some 41, _, _, _, _, some (9, false)⟩ rfl ?_ ?_
    case refine_2 => (intro w9 hSw; obtain ⟨s1, s2, s3, s4⟩ := hSw; (go_simp); (try omega); (try (intro h9; exact absurd (h9 (by omega)) (by omega))); try with_reducible rfl)
    simp only [za, zb, zc, zd]
    refine tk (v := ?_) 12 ⟨some 42, _, _, _, _, some (9, false)⟩ rfl ?_ ?_
    case refine_2 => (rintro w9 -; (go_simp); (try omega); (try (intro h9; exact absurd (h9 (by omega)) (by omega))); try with_reducible rfl)
    simp only [za, zb, zc, zd]
    refine tk (v := ?_) 13 ⟨some 43, _, _, _, _, none⟩ rfl ?_ ?_
    case refine_2 => (rintro w9 -; (go_simp); (try omega); (try (intro h9; exact absurd (h9 (by omega)) (by omega))); try with_reducible rfl)
    simp only [za, zb, zc, zd]
    refine tk (v := ?_) 14 ⟨some 44, _, _, _, _, none⟩ rfl ?_ ?_
    case refine_2 => (rintro w9 -; (go_simp); (try omega); (try (intro h9; exact absurd (h9 (by omega)) (by omega))); try with_reducible rfl)
    simp only [za, zb, zc, zd]
    refine tk (v := ?_) 15 ⟨some 45, _, _, _, _, some (14, false)⟩ rfl ?_ ?_
    case refine_2 => (rintro w9 -; (go_simp); (try omega); (try (intro h9; exact absurd (h9 (by omega)) (by omega))); try with_reducible rfl)
    simp only [za, zb, zc, zd]
    refine tk (v := ?_) 16 ⟨some 46, _, _, _, _, some (14, false)⟩ rfl ?_ ?_
    case refine_2 => (rintro w9 -; (go_simp); (try omega); (try (intro h9; exact absurd (h9 (by omega)) (by omega))); try with_reducible rfl)
    simp only [za, zb, zc, zd]
    refine tk (v := ?_) 17 ⟨some 47, _, _, _, _, some (14, false)⟩ rfl ?_ ?_
    case refine_2 => (rintro w9 -; (go_simp); (try omega); (try (intro h9; exact absurd (h9 (by omega)) (by omega))); try with_reducible rfl)
    simp only [za, zb, zc, zd]
    refine tku 18 ⟨some 48, _, _, _, _, some (17, true)⟩ rfl ?_
    simp only [za, zb, zc, zd]
    refine tku 19 ⟨some 49, _, _, _, _, some (17, true)⟩ rfl ?_
    simp only [za, zb, zc, zd]
    refine tku 20 ⟨some 50, _, _, _, _, some (17, true)⟩ rfl ?_
    simp only [za, zb, zc, zd]
    refine tku 21 ⟨some 51, _, _, _, _, some (17, true)⟩ rfl ?_
    simp only [za, zb, zc, zd]
    refine tku 22 ⟨some 52, _, _, _, _, some (17, true)⟩ rfl ?_
    simp only [za, zb, zc, zd]
    refine tku 23 ⟨some 53, _, _, _, _, some (17, true)⟩ rfl ?_
    simp only [za, zb, zc, zd]
    refine tku 24 ⟨some 54, _, _, _, _, some (17, true)⟩ rfl ?_
    simp only [za, zb, zc, zd]
    refine tku 25 ⟨some 55, _, _, _, _, some (17, true)⟩ rfl ?_
    simp only [za, zb, zc, zd]
    refine tku 26 ⟨some 56, _, _, _, _, some (17, true)⟩ rfl ?_
    simp only [za, zb, zc, zd]
    refine tku 27 ⟨some 57, _, _, _, _, some (17, true)⟩ rfl ?_
    simp only [za, zb, zc, zd]
    refine tk (v := ?_) 28 ⟨some 58, _, _, _, _, some (14, false)⟩ rfl ?_ ?_
    case refine_2 => (rintro w9 -; (go_simp); (try omega); (try (intro h9; exact absurd (h9 (by omega)) (by omega))); try with_reducible rfl)
    simp only [za, zb, zc, zd]
    refine tk (v := ?_) 29 ⟨some 59, _, _, _, _, none⟩ rfl ?_ ?_
    case refine_2 => (rintro w9 -; (go_simp); (try omega); (try (intro h9; exact absurd (h9 (by omega)) (by omega))); try with_reducible rfl)
    simp only [za, zb, zc, zd]
    refine wpAnyH_done (by kernel_rfl) ?_ _
    go_wp2_with fail
    exact ⟨⟨j + 1, by first | (simp; done) | (simp; omega), by omega, HXW, HBW, HOK2⟩, by simp [intOf]; omega⟩
   have hj0 : 0 < j := by omega
   obtain ⟨hp, _⟩ := HP0.out hj0
   by_cases hle : x.at_ ≤ q
   ·skip
    have HNO : ¬ OkTr L j := fun ⟨x', e', k1, k2, k3, k4⟩ => by (rw [hx] at e'; cases e'; rcases k4 with k4 | ⟨p', e2, k4⟩; (omega); (rw [hp] at e2; cases e2; omega))
    refine wp_region_held_drew (S := (fun W : World => W.cell? ⟨wr.heap.size, 0, none⟩ = some (vi ki x.at_) ∧ W.cell? ⟨wr.heap.size, 1, none⟩ = some (vi ki x.off) ∧ W.cell? ⟨w.heap.size, 5, none⟩ = some (.slice (some ⟨g, o, none⟩) n c) ∧ (0 < j → W.cell? ⟨g, o + (j - 1) * 4, none⟩ = some (vi ki q)))) (by kernel_rfl) (by simpa [go_sem] using HS6.out) (fun hHeld => ?_)
    refine tk (v := ?_) 0 ⟨some 30, _, _, _, _, none⟩ rfl ?_ ?_
    case refine_2 => (rintro w9 -; (go_simp); (try omega); (try (intro h9; exact absurd (h9 (by omega)) (by omega))); try with_reducible rfl)
    simp only [za, zb, zc, zd]
    refine tk (v := ?_) 1 ⟨some 31, _, _, _, _, none⟩ rfl ?_ ?_
    case refine_2 => (intro w9 hSw; obtain ⟨s1, s2, s3, s4⟩ := hSw; have s5 := s4 hj0; clear s4; (go_simp); (try omega); (try (intro h9; exact absurd (h9 (by omega)) (by omega))); try with_reducible rfl)
    simp only [za, zb, zc, zd]
    refine rd 2 ⟨some 32, _, _, _, _, none⟩ rfl (fun K hK => ?_)
    go_simp
    refine (isOff_any _ _).mono ?_
    rintro e v1 ⟨rfl, hv1⟩
    obtain rfl := hv1.symm
    rw [hO]
    refine hK.out _ _ hHeld (fun hHeld => ?_)
    clear hK K
    refine tk (v := ?_) 3 ⟨some 33, _, _, _, _, none⟩ rfl ?_ ?_
    case refine_2 => (rintro w9 -; (go_simp); (try omega); (try (intro h9; exact absurd (h9 (by omega)) (by omega))); try with_reducible rfl)
    simp only [za, zb, zc, zd]
    refine tk (v := ?_) 4 ⟨some 34, _, _, _, _, none⟩ rfl ?_ ?_
    case refine_2 => (rintro w9 -; (go_simp); (try omega); (try (intro h9; exact absurd (h9 (by omega)) (by omega))); try with_reducible rfl)
    simp only [za, zb, zc, zd]
    refine tk (v := ?_) 5 ⟨some 35, _, _, _, _, some (4, false)⟩ rfl ?_ ?_
    case refine_2 => (rintro w9 -; (go_simp); (try omega); (try (intro h9; exact absurd (h9 (by omega)) (by omega))); try with_reducible rfl)
    simp only [za, zb, zc, zd]
    refine tk (v := ?_) 6 ⟨some 36, _, _, _, _, some (4, false)⟩ rfl ?_ ?_
    case refine_2 => (intro w9 hSw; obtain ⟨s1, s2, s3, s4⟩ := hSw; have s5 := s4 hj0; clear s4; (go_simp); (try omega); (try (intro h9; exact absurd (h9 (by omega)) (by omega))); try with_reducible rfl)
    simp only [za, zb, zc, zd]
    refine tk (v := ?_) 7 ⟨some 37, _, _, _, _, some (4, false)⟩ rfl ?_ ?_
    case refine_2 => (rintro w9 -; (go_simp); (try omega); (try (intro h9; exact absurd (h9 (by omega)) (by omega))); try with_reducible rfl)
    simp only [za, zb, zc, zd]
    refine tk (v := ?_) 8 ⟨some 38, _, _, _, _, none⟩ rfl ?_ ?_
    case refine_2 => (rintro w9 -; (go_simp); (try omega); (try (intro h9; exact absurd (h9 (by omega)) (by omega))); try with_reducible rfl)
    simp only [za, zb, zc, zd]
    refine tk (v := ?_) 9 ⟨some 39, _, _, _, _, none⟩ rfl ?_ ?_
    case refine_2 => (rintro w9 -; (go_simp); (try omega); (try (intro h9; exact absurd (h9 (by omega)) (by omega))); try with_reducible rfl)
    simp only [za, zb, zc, zd]
    refine tk (v := ?_) 10 ⟨some 40, _, _, _, _, some (9, false)⟩ rfl ?_ ?_
    case refine_2 => (rintro w9 -; (go_simp); (try omega); (try (intro h9; exact absurd (h9 (by omega)) (by omega))); try with_reducible rfl)
    simp only [za, zb, zc, zd]
    refine tk (v := ?_) 11 ⟨some 41, _, _, _, _, some (9, false)⟩ rfl ?_ ?_
    case refine_2 => (intro w9 hSw; obtain ⟨s1, s2, s3, s4⟩ := hSw; have s5 := s4 hj0; clear s4; (go_simp); (try omega); (try (intro h9; exact absurd (h9 (by omega)) (by omega))); try with_reducible rfl)
    simp only [za, zb, zc, zd]
    refine tk (v := ?_) 12 ⟨some 42, _, _, _, _, some (9, false)⟩ rfl ?_ ?_
    case refine_2 => (rintro w9 -; (go_simp); (try omega); (try (intro h9; exact absurd (h9 (by omega)) (by omega))); try with_reducible rfl)
    simp only [za, zb, zc, zd]
    refine tk (v := ?_) 13 ⟨some 43, _, _, _, _, none⟩ rfl ?_ ?_
    case refine_2 => (rintro w9 -; (go_simp); (try omega); (try (intro h9; exact absurd (h9 (by omega)) (by omega))); try with_reducible rfl)
    simp only [za, zb, zc, zd]
    refine tk (v := ?_) 14 ⟨some 44, _, _, _, _, none⟩ rfl ?_ ?_
    case refine_2 => (rintro w9 -; (go_simp); (try omega); (try (intro h9; exact absurd (h9 (by omega)) (by omega))); try with_reducible rfl)
    simp only [za, zb, zc, zd]
    refine tk (v := ?_) 15 ⟨some 45, _, _, _, _, some (14, false)⟩ rfl ?_ ?_
    case refine_2 => (rintro w9 -; (go_simp); (try omega); (try (intro h9; exact absurd (h9 (by omega)) (by omega))); try with_reducible rfl)
    simp only [za, zb, zc, zd]
    refine tk (v := ?_) 16 ⟨some 46, _, _, _, _, some (14, false)⟩ rfl ?_ ?_
    case refine_2 => (rintro w9 -; (go_simp); (try omega); (try (intro h9; exact absurd (h9 (by omega)) (by omega))); try with_reducible rfl)
    simp only [za, zb, zc, zd]
    refine tk (v := ?_) 17 ⟨some 47, _, _, _, _, some (14, false)⟩ rfl ?_ ?_
    case refine_2 => (rintro w9 -; (go_simp); (try omega); (try (intro h9; exact absurd (h9 (by omega)) (by omega))); try with_reducible rfl)
    simp only [za, zb, zc, zd]
    refine tk (v := ?_) 18 ⟨some 48, _, _, _, _, some (17, true)⟩ rfl ?_ ?_
    case refine_2 => (rintro w9 -; (go_simp); (try omega); (try (intro h9; exact absurd (h9 (by omega)) (by omega))); try with_reducible rfl)
    simp only [za, zb, zc, zd]
    refine tk (v := ?_) 19 ⟨some 49, _, _, _, _, some (17, true)⟩ rfl ?_ ?_
    case refine_2 => (intro w9 hSw; obtain ⟨s1, s2, s3, s4⟩ := hSw; have s5 := s4 hj0; clear s4; (go_simp); (try omega); (try (intro h9; exact absurd (h9 (by omega)) (by omega))); try with_reducible rfl)
    simp only [za, zb, zc, zd]
    refine tk (v := ?_) 20 ⟨some 50, _, _, _, _, some (17, true)⟩ rfl ?_ ?_
    case refine_2 => (rintro w9 -; (go_simp); (try omega); (try (intro h9; exact absurd (h9 (by omega)) (by omega))); try with_reducible rfl)
    simp only [za, zb, zc, zd]
    refine tk (v := ?_) 21 ⟨some 51, _, _, _, _, some (17, true)⟩ rfl ?_ ?_
    case refine_2 => (intro w9 hSw; obtain ⟨s1, s2, s3, s4⟩ := hSw; have s5 := s4 hj0; clear s4; (go_simp); (try omega); (try (intro h9; exact absurd (h9 (by omega)) (by omega))); try with_reducible rfl)
    simp only [za, zb, zc, zd]
    refine tk (v := ?_) 22 ⟨some 52, _, _, _, _, some (17, true)⟩ rfl ?_ ?_
    case refine_2 => (rintro w9 -; (go_simp); (try omega); (try (intro h9; exact absurd (h9 (by omega)) (by omega))); try with_reducible rfl)
    simp only [za, zb, zc, zd]
    refine tk (v := ?_) 23 ⟨some 53, _, _, _, _, some (17, true)⟩ rfl ?_ ?_
    case refine_2 => (rintro w9 -; (go_simp); (try omega); (try (intro h9; exact absurd (h9 (by omega)) (by omega))); try with_reducible rfl)
    simp only [za, zb, zc, zd]
    refine wpAnyH_take (i := 24) (v := .pointer (some ⟨g, o + (j - 1) * 4, none⟩)) (oi := ⟨some 54, _, _, _, _, some (17, true)⟩) rfl (by kernel_rfl) (by kernel_rfl) (by kernel_rfl) (fun _ _ _ h => h) (Or.inl ⟨by kernel_rfl, ?_⟩) (by assumption) ?_
    case refine_1 => (rintro w9 -; (go_simp); (try omega); (try (intro h9; exact absurd (h9 (by omega)) (by omega))); try with_reducible rfl)
    simp only [za, zb, zc, zd]
    refine tk (v := ?_) 25 ⟨some 55, _, _, _, _, some (17, true)⟩ rfl ?_ ?_
    case refine_2 => (rintro w9 -; (go_simp); (try omega); (try (intro h9; exact absurd (h9 (by omega)) (by omega))); try with_reducible rfl)
    simp only [za, zb, zc, zd]
    refine tk (v := ?_) 26 ⟨some 56, _, _, _, _, some (17, true)⟩ rfl ?_ ?_
    case refine_2 => (intro w9 hSw; obtain ⟨s1, s2, s3, s4⟩ := hSw; have s5 := s4 hj0; clear s4; (go_simp); (try omega); (try (intro h9; exact absurd (h9 (by omega)) (by omega))); try with_reducible rfl)
    simp only [za, zb, zc, zd]
    refine tk (v := ?_) 27 ⟨some 57, _, _, _, _, some (17, true)⟩ rfl ?_ ?_
    case refine_2 => (rintro w9 -; (go_simp); (try omega); (try (intro h9; exact absurd (h9 (by omega)) (by omega))); try with_reducible rfl)
    simp only [za, zb, zc, zd]
    refine tk (v := ?_) 28 ⟨some 58, _, _, _, _, some (14, false)⟩ rfl ?_ ?_
    case refine_2 => (rintro w9 -; (go_simp); (try omega); (try (intro h9; exact absurd (h9 (by omega)) (by omega))); try with_reducible rfl)
    simp only [za, zb, zc, zd]
    refine tk (v := ?_) 29 ⟨some 59, _, _, _, _, none⟩ rfl ?_ ?_
    case refine_2 => (rintro w9 -; (go_simp); (try omega); (try (intro h9; exact absurd (h9 (by omega)) (by omega))); try with_reducible rfl)
    simp only [za, zb, zc, zd]
    refine wpAnyH_done (by kernel_rfl) ?_ _
    go_wp2_with fail
    exact bodyPost_ret (v := .bool false) (by simp [results, Tryz.results16, go_sem]) rfl ⟨ret_b9 (hno ⟨j, hjn, HNO⟩).symm, HBW⟩
   ·skip
    have HOK2 : Hid (∀ i, i < j + 1 → OkTr L i) := okMore HOK.out ⟨x, hx, hO, by omega, by omega, .inr ⟨p, hp, by omega⟩⟩
    refine wp_region_held_drew (S := (fun W : World => W.cell? ⟨wr.heap.size, 0, none⟩ = some (vi ki x.at_) ∧ W.cell? ⟨wr.heap.size, 1, none⟩ = some (vi ki x.off) ∧ W.cell? ⟨w.heap.size, 5, none⟩ = some (.slice (some ⟨g, o, none⟩) n c) ∧ (0 < j → W.cell? ⟨g, o + (j - 1) * 4, none⟩ = some (vi ki q)))) (by kernel_rfl) (by simpa [go_sem] using HS6.out) (fun hHeld => ?_)
    refine tk (v := ?_) 0 ⟨some 30, _, _, _, _, none⟩ rfl ?_ ?_
    case refine_2 => (rintro w9 -; (go_simp); (try omega); (try (intro h9; exact absurd (h9 (by omega)) (by omega))); try with_reducible rfl)
    simp only [za, zb, zc, zd]
    refine tk (v := ?_) 1 ⟨some 31, _, _, _, _, none⟩ rfl ?_ ?_
    case refine_2 => (intro w9 hSw; obtain ⟨s1, s2, s3, s4⟩ := hSw; have s5 := s4 hj0; clear s4; (go_simp); (try omega); (try (intro h9; exact absurd (h9 (by omega)) (by omega))); try with_reducible rfl)
    simp only [za, zb, zc, zd]
    refine rd 2 ⟨some 32, _, _, _, _, none⟩ rfl (fun K hK => ?_)
    go_simp
    refine (isOff_any _ _).mono ?_
    rintro e v1 ⟨rfl, hv1⟩
    obtain rfl := hv1.symm
    rw [hO]
    refine hK.out _ _ hHeld (fun hHeld => ?_)
    clear hK K
    refine tk (v := ?_) 3 ⟨some 33, _, _, _, _, none⟩ rfl ?_ ?_
    case refine_2 => (rintro w9 -; (go_simp); (try omega); (try (intro h9; exact absurd (h9 (by omega)) (by omega))); try with_reducible rfl)
    simp only [za, zb, zc, zd]
    refine tk (v := ?_) 4 ⟨some 34, _, _, _, _, none⟩ rfl ?_ ?_
    case refine_2 => (rintro w9 -; (go_simp); (try omega); (try (intro h9; exact absurd (h9 (by omega)) (by omega))); try with_reducible rfl)
    simp only [za, zb, zc, zd]
    refine tk (v := ?_) 5 ⟨some 35, _, _, _, _, some (4, false)⟩ rfl ?_ ?_
    case refine_2 => (rintro w9 -; (go_simp); (try omega); (try (intro h9; exact absurd (h9 (by omega)) (by omega))); try with_reducible rfl)
    simp only [za, zb, zc, zd]
    refine tk (v := ?_) 6 ⟨some 36, _, _, _, _, some (4, false)⟩ rfl ?_ ?_
    case refine_2 => (intro w9 hSw; obtain ⟨s1, s2, s3, s4⟩ := hSw; have s5 := s4 hj0; clear s4; (go_simp); (try omega); (try (intro h9; exact absurd (h9 (by omega)) (by omega))); try with_reducible rfl)
    simp only [za, zb, zc, zd]
    refine tk (v := ?_) 7 ⟨some 37, _, _, _, _, some (4, false)⟩ rfl ?_ ?_
    case refine_2 => (rintro w9 -; (go_simp); (try omega); (try (intro h9; exact absurd (h9 (by omega)) (by omega))); try with_reducible rfl)
    simp only [za, zb, zc, zd]
    refine tk (v := ?_) 8 ⟨some 38, _, _, _, _, none⟩ rfl ?_ ?_
    case refine_2 => (rintro w9 -; (go_simp); (try omega); (try (intro h9; exact absurd (h9 (by omega)) (by omega))); try with_reducible rfl)
    simp only [za, zb, zc, zd]
    refine tk (v := ?_) 9 ⟨some 39, _, _, _, _, none⟩ rfl ?_ ?_
    case refine_2 => (rintro w9 -; (go_simp); (try omega); (try (intro h9; exact absurd (h9 (by omega)) (by omega))); try with_reducible rfl)
    simp only [za, zb, zc, zd]
    refine tk (v := ?_) 10 ⟨some 40, _, _, _, _, some (9, false)⟩ rfl ?_ ?_
    case refine_2 => (rintro w9 -; (go_simp); (try omega); (try (intro h9; exact absurd (h9 (by omega)) (by omega))); try with_reducible rfl)
    simp only [za, zb, zc, zd]
    refine tk (v := ?_) 11 ⟨some 41, _, _, _, _, some (9, false)⟩ rfl ?_ ?_
    case refine_2 => (intro w9 hSw; obtain ⟨s1, s2, s3, s4⟩ := hSw; have s5 := s4 hj0; clear s4; (go_simp); (try omega); (try (intro h9; exact absurd (h9 (by omega)) (by omega))); try with_reducible rfl)
    simp only [za, zb, zc, zd]
    refine tk (v := ?_) 12 ⟨some 42, _, _, _, _, some (9, false)⟩ rfl ?_ ?_
    case refine_2 => (rintro w9 -; (go_simp); (try omega); (try (intro h9; exact absurd (h9 (by omega)) (by omega))); try with_reducible rfl)
    simp only [za, zb, zc, zd]
    refine tk (v := ?_) 13 ⟨some 43, _, _, _, _, none⟩ rfl ?_ ?_
    case refine_2 => (rintro w9 -; (go_simp); (try omega); (try (intro h9; exact absurd (h9 (by omega)) (by omega))); try with_reducible rfl)
    simp only [za, zb, zc, zd]
    refine tk (v := ?_) 14 ⟨some 44, _, _, _, _, none⟩ rfl ?_ ?_
    case refine_2 => (rintro w9 -; (go_simp); (try omega); (try (intro h9; exact absurd (h9 (by omega)) (by omega))); try with_reducible rfl)
    simp only [za, zb, zc, zd]
    refine tk (v := ?_) 15 ⟨some 45, _, _, _, _, some (14, false)⟩ rfl ?_ ?_
    case refine_2 => (rintro w9 -; (go_simp); (try omega); (try (intro h9; exact absurd (h9 (by omega)) (by omega))); try with_reducible rfl)
    simp only [za, zb, zc, zd]
    refine tk (v := ?_) 16 ⟨some 46, _, _, _, _, some (14, false)⟩ rfl ?_ ?_
    case refine_2 => (rintro w9 -; (go_simp); (try omega); (try (intro h9; exact absurd (h9 (by omega)) (by omega))); try with_reducible rfl)
    simp only [za, zb, zc, zd]
    refine tk (v := ?_) 17 ⟨some 47, _, _, _, _, some (14, false)⟩ rfl ?_ ?_
    case refine_2 => (rintro w9 -; (go_simp); (try omega); (try (intro h9; exact absurd (h9 (by omega)) (by omega))); try with_reducible rfl)
    simp only [za, zb, zc, zd]
    refine tk (v := ?_) 18 ⟨some 48, _, _, _, _, some (17, true)⟩ rfl ?_ ?_
    case refine_2 => (rintro w9 -; (go_simp); (try omega); (try (intro h9; exact absurd (h9 (by omega)) (by omega))); try with_reducible rfl)
    simp only [za, zb, zc, zd]
    refine tk (v := ?_) 19 ⟨some 49, _, _, _, _, some (17, true)⟩ rfl ?_ ?_
    case refine_2 => (intro w9 hSw; obtain ⟨s1, s2, s3, s4⟩ := hSw; have s5 := s4 hj0; clear s4; (go_simp); (try omega); (try (intro h9; exact absurd (h9 (by omega)) (by omega))); try with_reducible rfl)
    simp only [za, zb, zc, zd]
    refine tk (v := ?_) 20 ⟨some 50, _, _, _, _, some (17, true)⟩ rfl ?_ ?_
    case refine_2 => (rintro w9 -; (go_simp); (try omega); (try (intro h9; exact absurd (h9 (by omega)) (by omega))); try with_reducible rfl)
    simp only [za, zb, zc, zd]
    refine tk (v := ?_) 21 ⟨some 51, _, _, _, _, some (17, true)⟩ rfl ?_ ?_
    case refine_2 => (intro w9 hSw; obtain ⟨s1, s2, s3, s4⟩ := hSw; have s5 := s4 hj0; clear s4; (go_simp); (try omega); (try (intro h9; exact absurd (h9 (by omega)) (by omega))); try with_reducible rfl)
    simp only [za, zb, zc, zd]
    refine tk (v := ?_) 22 ⟨some 52, _, _, _, _, some (17, true)⟩ rfl ?_ ?_
    case refine_2 => (rintro w9 -; (go_simp); (try omega); (try (intro h9; exact absurd (h9 (by omega)) (by omega))); try with_reducible rfl)
    simp only [za, zb, zc, zd]
    refine tk (v := ?_) 23 ⟨some 53, _, _, _, _, some (17, true)⟩ rfl ?_ ?_
    case refine_2 => (rintro w9 -; (go_simp); (try omega); (try (intro h9; exact absurd (h9 (by omega)) (by omega))); try with_reducible rfl)
    simp only [za, zb, zc, zd]
    refine wpAnyH_take (i := 24) (v := .pointer (some ⟨g, o + (j - 1) * 4, none⟩)) (oi := ⟨some 54, _, _, _, _, some (17, true)⟩) rfl (by kernel_rfl) (by kernel_rfl) (by kernel_rfl) (fun _ _ _ h => h) (Or.inl ⟨by kernel_rfl, ?_⟩) (by assumption) ?_
    case refine_1 => (rintro w9 -; (go_simp); (try omega); (try (intro h9; exact absurd (h9 (by omega)) (by omega))); try with_reducible rfl)
    simp only [za, zb, zc, zd]
    refine tk (v := ?_) 25 ⟨some 55, _, _, _, _, some (17, true)⟩ rfl ?_ ?_
    case refine_2 => (rintro w9 -; (go_simp); (try omega); (try (intro h9; exact absurd (h9 (by omega)) (by omega))); try with_reducible rfl)
    simp only [za, zb, zc, zd]
    refine tk (v := ?_) 26 ⟨some 56, _, _, _, _, some (17, true)⟩ rfl ?_ ?_
    case refine_2 => (intro w9 hSw; obtain ⟨s1, s2, s3, s4⟩ := hSw; have s5 := s4 hj0; clear s4; (go_simp); (try omega); (try (intro h9; exact absurd (h9 (by omega)) (by omega))); try with_reducible rfl)
    simp only [za, zb, zc, zd]
    refine tk (v := ?_) 27 ⟨some 57, _, _, _, _, some (17, true)⟩ rfl ?_ ?_
    case refine_2 => (rintro w9 -; (go_simp); (try omega); (try (intro h9; exact absurd (h9 (by omega)) (by omega))); try with_reducible rfl)
    simp only [za, zb, zc, zd]
    refine tk (v := ?_) 28 ⟨some 58, _, _, _, _, some (14, false)⟩ rfl ?_ ?_
    case refine_2 => (rintro w9 -; (go_simp); (try omega); (try (intro h9; exact absurd (h9 (by omega)) (by omega))); try with_reducible rfl)
    simp only [za, zb, zc, zd]
    refine tk (v := ?_) 29 ⟨some 59, _, _, _, _, none⟩ rfl ?_ ?_
    case refine_2 => (rintro w9 -; (go_simp); (try omega); (try (intro h9; exact absurd (h9 (by omega)) (by omega))); try with_reducible rfl)
    simp only [za, zb, zc, zd]
    refine wpAnyH_done (by kernel_rfl) ?_ _
    go_wp2_with fail
    exact ⟨⟨j + 1, by first | (simp; done) | (simp; omega), by omega, HXW, HBW, HOK2⟩, by simp [intOf]; omega⟩
  ·have hb := hyes (fun i hi => HOK.out i (by omega))
   have HR : Hid (wr.rangeAt w.heap.size 6 FL) := fun j v hv => (HX.out.2 (6 + j) v ((tbF_foot j).trans hv)).1
   have HEQ : Hid (∀ W : World, (Op.equalIn 10000 44 (.agg FL.toArray) (.agg #[.bool false, vi ki 0, vi ki 0, vi ki 0, vi ki 0, vi ki 0, vi ki 0, vi ki 0, .int .u8 0, vi ki 0, .string ⟨#[]⟩, vi ki 0, vi ki 0, vi ki 0, vi ki 0, vi ki 0, .int .u8 0, vi ki 0, .string ⟨#[]⟩])).run Tryz.prog W = .ok z W) := hEQ
   clear hyes hno HOK hEQ
   cases z
   ·have hEQ := HEQ.out
    have HRF : Hid (Calls Tryz.prog 33 #[.agg UA] wr fun e w' => e = zr (.bool r) ∧ Below wr.heap.size wr w') := RF.out rfl wr HB.out
    clear HEQ RF
    go_wp2_with (first | (refine wpList_load_mid rfl 44 _ rfl w.heap.size 6 rfl FL _ HR.out Tryz.underlying44 rfl (by rw [hF]; kernel_rfl) ?_) | (refine load_mid_on (by kernel_rfl) 46 _ rfl w.heap.size 0 rfl (tbF nm f (.slice ao n c) FL) _ HX.out.all Tryz.underlying46 rfl (by rw [tbF_len hF]; kernel_rfl) ?_; rw [hUA]) | fail)
    refine HRF.out.mono ?_
    rintro e w5 ⟨rfl, hb5⟩
    have HB5 : Hid (Below w.heap.size w w5) := HB.out.trans (hb5.mono HB.out.size)
    clear hb5
    go_wp2_with fail
    go_ret
    exact ⟨ret_b9 (by rw [hb]; rfl), HB5.out⟩
   ·have hEQ := HEQ.out
    clear HEQ RF
    go_wp2_with (first | (refine wpList_load_mid rfl 44 _ rfl w.heap.size 6 rfl FL _ HR.out Tryz.underlying44 rfl (by rw [hF]; kernel_rfl) ?_) | fail)
    go_ret
    exact ⟨ret_b9 (by rw [hb]; rfl), HB.out⟩
def spC (j m d n : Int) : List Value := [vi ki j, vi ki m, vi ki d, vi ki n]
theorem setz : ∀ (l : List Value) (k : Nat) (acc : List Value), k + l.length ≤ acc.length → (l.zipIdx k).foldl (fun (cs : Array Value) x => cs.setIfInBounds x.2 x.1) acc.toArray = (acc.take k ++ l ++ acc.drop (k + l.length)).toArray
 | [], k, acc, h => by simp
 | v :: l, k, acc, h => by
  have hk : k < acc.length := by simp at h; omega
  rw [List.zipIdx_cons, List.foldl_cons]
  simp only [List.setIfInBounds_toArray]
  rw [setz l (k + 1) (acc.set k v) (by simp at h ⊢; omega)]
  congr 1
  rw [List.set_eq_take_append_cons_drop, if_pos hk]
  have e1 : (acc.take k ++ v :: acc.drop (k + 1)).take (k + 1) = acc.take k ++ [v] := by
   rw [List.take_append, List.length_take, Nat.min_eq_left (by omega), List.take_of_length_le (by simp; omega), show k + 1 - k = 1 by omega]; rfl
  have e2 : (acc.take k ++ v :: acc.drop (k + 1)).drop (k + 1 + l.length) = acc.drop (k + (l.length + 1)) := by
   rw [List.drop_append, List.length_take, Nat.min_eq_left (by omega), List.drop_of_length_le (by simp; omega), show k + 1 + l.length - k = l.length + 1 by omega, List.drop_succ_cons, List.drop_drop, List.nil_append]
   congr 1; omega
  rw [e1, e2]
  simp
theorem z29 (T : List Value) (hT : T.length = 25) (Z : List Value) (hZ : Z.length = 29) (j m d n : Int) : ∃ FA : Array Value, Array.foldl (fun (cs : Array Value) (x : Value × Nat) => cs.setIfInBounds x.snd x.fst) Z.toArray T.toArray.zipIdx 0 25 = FA ∧ FA.size = 29 ∧ ((((FA.setIfInBounds 25 (vi ki j)).setIfInBounds 26 (vi ki m)).setIfInBounds 27 (vi ki d)).setIfInBounds 28 (vi ki n)) = (T ++ spC j m d n).toArray := by
 have e : Array.foldl (fun (cs : Array Value) (x : Value × Nat) => cs.setIfInBounds x.snd x.fst) Z.toArray T.toArray.zipIdx 0 25 = (T ++ Z.drop 25).toArray := by
  have h1 : Array.foldl (fun (cs : Array Value) (x : Value × Nat) => cs.setIfInBounds x.snd x.fst) Z.toArray T.toArray.zipIdx 0 25 = T.zipIdx.foldl (fun (cs : Array Value) x => cs.setIfInBounds x.2 x.1) Z.toArray := by
   have hs : (25 : Nat) = T.toArray.zipIdx.size := by simp [hT]
   rw [hs, ← Array.foldl_toList]
   simp
  rw [h1, setz T 0 Z (by omega), hT]
  simp
 refine ⟨_, e, by simp [hT, hZ], ?_⟩
 obtain ⟨a, b, c, d', hz⟩ : ∃ a b c d', Z.drop 25 = [a, b, c, d'] := by
  have hl : (Z.drop 25).length = 4 := by rw [List.length_drop, hZ]
  generalize Z.drop 25 = y at hl
  match y, hl with
  | [a, b, c, d'], _ => exact ⟨a, b, c, d', rfl⟩
 rw [hz]
 simp only [List.setIfInBounds_toArray]
 rw [List.set_append_right _ _ (by omega), List.set_append_right _ _ (by omega), List.set_append_right _ _ (by omega), List.set_append_right _ _ (by omega), hT]
 rfl
theorem znext_any (Ok : World → Prop) (T : List Value) (hT : T.length = 25) (i u j m d n I V E : Int)
  (AZ : Hid (∀ w : World, Ok w → Calls Tryz.prog 10 #[.agg T.toArray, .agg #[vi ki i, vi ki u], .agg #[vi ki j, vi ki m, vi ki d, vi ki n]] w fun r' w' => r' = zr (.tuple #[.agg #[vi ki I, vi ki V], vi ki E]) ∧ Below w.heap.size w w'))
  (w : World) (hL : Hid (∀ W : World, Below w.heap.size w W → Ok W)) :
  Calls Tryz.prog 20 #[.agg (T ++ spC j m d n).toArray, .agg #[vi ki i, vi ki u]] w fun r' w' => r' = zr (.tuple #[.agg #[vi ki I, vi ki V], vi ki E]) ∧ Below w.heap.size w w' := by
 have K0 : Hid (BS w [(w.heap.size + 2, [vi ki 0, vi ki 0]), (w.heap.size + 1, [vi ki i, vi ki u]), (w.heap.size, T ++ spC j m d n)] (((w.alloc (.cells (T ++ spC j m d n).toArray 70)).alloc (.cells #[vi ki i, vi ki u] 36)).alloc (.cells #[vi ki 0, vi ki 0] 36))) := (((BS.start w).new (T ++ spC j m d n) 70 rfl).new [vi ki i, vi ki u] 36 (by simp)).new [vi ki 0, vi ki 0] 36 (by simp)
 have g5 : ∀ q, (T ++ spC j m d n)[25 + q]? = (spC j m d n)[q]? := fun q => by rw [List.getElem?_append_right (by omega), hT, Nat.add_sub_cancel_left]
 go_enter Tryz.func20, Tryz.ntmps20
 generalize hUA : (T ++ spC j m d n).toArray = UA at *
 go_upto_region 1 with fail
 refine bs_to K0 ?_
 clear K0
 intro W0 K0
 have RG : Hid (W0.rangeAt w.heap.size 0 T) := fun q x hx => by
  rw [Nat.zero_add]
  exact (bo3 K0).c q (by rw [List.getElem?_append_left (List.getElem?_eq_some_iff.1 hx).1]; exact hx)
 have d25 : W0.cell? ⟨w.heap.size, 25, none⟩ = some (vi ki j) := (bo3 K0).c 25 (g5 0)
 have d26 : W0.cell? ⟨w.heap.size, 26, none⟩ = some (vi ki m) := (bo3 K0).c 26 (g5 1)
 have d27 : W0.cell? ⟨w.heap.size, 27, none⟩ = some (vi ki d) := (bo3 K0).c 27 (g5 2)
 have d28 : W0.cell? ⟨w.heap.size, 28, none⟩ = some (vi ki n) := (bo3 K0).c 28 (g5 3)
 obtain ⟨c0, c1⟩ := (bo2 K0).c2
 clear g5
 generalize hTA : T.toArray = TA at *
 go_wp2_with (first | (refine wpList_load_mid rfl 46 _ rfl (w.heap.size) 0 rfl T _ RG.out Tryz.underlying46 rfl (by rw [hT]; kernel_rfl) ?_; rw [hTA]) | fail)
 refine (AZ.out _ (hL.out _ K0.out.1)).mono ?_
 rintro e W1 ⟨rfl, hb⟩
 have K1 := bsb K0 hb
 clear c0 c1 d25 d26 d27 d28 RG
 clear hb K0
 obtain ⟨c0, c1⟩ := (bo1 K1).c2
 obtain ⟨z0, z1⟩ := (bo1 K1).f2
 have XF : Hid (Bx (W1.setCells (w.heap.size + 2) 0 [vi ki I, vi ki V]) (w.heap.size + 2) [vi ki I, vi ki V]) := (bo1 K1).setAll _ rfl
 have BF : Hid (Below w.heap.size w (W1.setCells (w.heap.size + 2) 0 [vi ki I, vi ki V])) := below_setCells (by omega) _ _ _ K1.out.1
 have y0 := XF.out.c 0 rfl
 have y1 := XF.out.c 1 rfl
 simp only [World.setCells, Nat.zero_add] at y0 y1
 clear XF
 go_wp2
 exact bodyPost_ret (v := .tuple #[.agg #[vi ki I, vi ki V], vi ki E]) (by simp [results, Tryz.results20, go_sem, y0, y1]) rfl ⟨rfl, BF.out⟩
theorem tz_no0 (Ok : World → Prop) (T : List Value) (hT : T.length = 25) (i u bi bu j M D U m : Int)
  (MO : Hid (∀ w : World, Calls Tryz.prog 15 #[vi ki m] w fun r' w' => r' = zr (.bool false) ∧ w' = w))
  (w : World) (hL : Hid (∀ W : World, Below w.heap.size w W → Ok W)) :
  Calls Tryz.prog 6 #[.agg T.toArray, .agg #[vi ki i, vi ki u], .agg #[vi ki bi, vi ki bu], .agg #[vi ki j, vi ki M, vi ki D, vi ki U], vi ki m] w fun r' w' => r' = zr (.tuple #[.slice none 0 0, vi ki 1]) ∧ Below w.heap.size w w' := by
 have K0 := bsn4 w T 46 [vi ki i, vi ki u] 36 [vi ki bi, vi ki bu] 36 [vi ki j, vi ki M, vi ki D, vi ki U] 38
 go_enter Tryz.func6, Tryz.ntmps6
 generalize hUA : T.toArray = UA at *
 go_upto_region 1 with fail
 refine gen_to (BS w [(w.heap.size + 3, [vi ki j, vi ki M, vi ki D, vi ki U]), (w.heap.size + 2, [vi ki bi, vi ki bu]), (w.heap.size + 1, [vi ki i, vi ki u]), (w.heap.size, T)]) K0.out ?_
 clear K0
 intro W0 K0'
 have K0 : Hid (BS w [(w.heap.size + 3, [vi ki j, vi ki M, vi ki D, vi ki U]), (w.heap.size + 2, [vi ki bi, vi ki bu]), (w.heap.size + 1, [vi ki i, vi ki u]), (w.heap.size, T)] W0) := K0'
 clear K0'
 obtain ⟨c0_0_0, c0_0_1, c0_0_2, c0_0_3⟩ := (bo1 K0).c4
 obtain ⟨c0_1_0, c0_1_1⟩ := (bo2 K0).c2
 obtain ⟨c0_2_0, c0_2_1⟩ := (bo3 K0).c2
 go_wp2_with (first | (refine wpList_load_mid rfl 46 _ rfl (w.heap.size) 0 rfl T _ (K0.out.at (w.heap.size) T (by simp)).all Tryz.underlying46 rfl (by rw [hT]; kernel_rfl) ?_; rw [hUA]) | (refine load_mid_on (by kernel_rfl) 46 _ rfl (w.heap.size) 0 rfl T _ (K0.out.at (w.heap.size) T (by simp)).all Tryz.underlying46 rfl (by rw [hT]; kernel_rfl) ?_; rw [hUA]) | fail)
 refine (MO.out _).mono ?_
 rintro e W1 ⟨rfl, hw⟩
 rw [hw]
 clear hw W1
 go_wp2_with fail
 go_ret2
 exact ⟨rfl, K0.out.1⟩
theorem tz_no1 (Ok : World → Prop) (T : List Value) (hT : T.length = 25) (i u bi bu j M D U m : Int)
  (MO : Hid (∀ w : World, Calls Tryz.prog 15 #[vi ki m] w fun r' w' => r' = zr (.bool true) ∧ w' = w))
  (RT : Hid (∀ w : World, Ok w → Calls Tryz.prog 16 #[.agg T.toArray] w fun r' w' => r' = zr (.bool false) ∧ Below w.heap.size w w'))
  (w : World) (hL : Hid (∀ W : World, Below w.heap.size w W → Ok W)) :
  Calls Tryz.prog 6 #[.agg T.toArray, .agg #[vi ki i, vi ki u], .agg #[vi ki bi, vi ki bu], .agg #[vi ki j, vi ki M, vi ki D, vi ki U], vi ki m] w fun r' w' => r' = zr (.tuple #[.slice none 0 0, vi ki 1]) ∧ Below w.heap.size w w' := by
 have K0 := bsn4 w T 46 [vi ki i, vi ki u] 36 [vi ki bi, vi ki bu] 36 [vi ki j, vi ki M, vi ki D, vi ki U] 38
 go_enter Tryz.func6, Tryz.ntmps6
 generalize hUA : T.toArray = UA at *
 go_upto_region 1 with fail
 refine gen_to (BS w [(w.heap.size + 3, [vi ki j, vi ki M, vi ki D, vi ki U]), (w.heap.size + 2, [vi ki bi, vi ki bu]), (w.heap.size + 1, [vi ki i, vi ki u]), (w.heap.size, T)]) K0.out ?_
 clear K0
 intro W0 K0'
 have K0 : Hid (BS w [(w.heap.size + 3, [vi ki j, vi ki M, vi ki D, vi ki U]), (w.heap.size + 2, [vi ki bi, vi ki bu]), (w.heap.size + 1, [vi ki i, vi ki u]), (w.heap.size, T)] W0) := K0'
 clear K0'
 obtain ⟨c0_0_0, c0_0_1, c0_0_2, c0_0_3⟩ := (bo1 K0).c4
 obtain ⟨c0_1_0, c0_1_1⟩ := (bo2 K0).c2
 obtain ⟨c0_2_0, c0_2_1⟩ := (bo3 K0).c2
 go_wp2_with (first | (refine wpList_load_mid rfl 46 _ rfl (w.heap.size) 0 rfl T _ (K0.out.at (w.heap.size) T (by simp)).all Tryz.underlying46 rfl (by rw [hT]; kernel_rfl) ?_; rw [hUA]) | (refine load_mid_on (by kernel_rfl) 46 _ rfl (w.heap.size) 0 rfl T _ (K0.out.at (w.heap.size) T (by simp)).all Tryz.underlying46 rfl (by rw [hT]; kernel_rfl) ?_; rw [hUA]) | fail)
 refine (MO.out _).mono ?_
 rintro e W1 ⟨rfl, hw⟩
 rw [hw]
 clear hw W1
 go_wp2_with (first | (refine wpList_load_mid rfl 46 _ rfl (w.heap.size) 0 rfl T _ (K0.out.at (w.heap.size) T (by simp)).all Tryz.underlying46 rfl (by rw [hT]; kernel_rfl) ?_; rw [hUA]) | (refine load_mid_on (by kernel_rfl) 46 _ rfl (w.heap.size) 0 rfl T _ (K0.out.at (w.heap.size) T (by simp)).all Tryz.underlying46 rfl (by rw [hT]; kernel_rfl) ?_; rw [hUA]) | fail)
 refine (RT.out _ (hL.out _ K0.out.1)).mono ?_
 rintro e W2 ⟨rfl, hb⟩
 have K2 := bsb K0 hb
 clear c0_0_0 c0_0_1 c0_0_2 c0_0_3 c0_1_0 c0_1_1 c0_2_0 c0_2_1
 clear hb K0
 obtain ⟨c2_0_0, c2_0_1, c2_0_2, c2_0_3⟩ := (bo1 K2).c4
 obtain ⟨c2_1_0, c2_1_1⟩ := (bo2 K2).c2
 obtain ⟨c2_2_0, c2_2_1⟩ := (bo3 K2).c2
 go_wp2
 go_ret2
 exact ⟨rfl, K2.out.1⟩
theorem tz_no2 (Ok : World → Prop) (T : List Value) (hT : T.length = 25) (i u bi bu j M D U m : Int)
  (MO : Hid (∀ w : World, Calls Tryz.prog 15 #[vi ki m] w fun r' w' => r' = zr (.bool true) ∧ w' = w))
  (RT : Hid (∀ w : World, Ok w → Calls Tryz.prog 16 #[.agg T.toArray] w fun r' w' => r' = zr (.bool true) ∧ Below w.heap.size w w'))
  (R1 : Hid (∀ w : World, Ok w → Calls Tryz.prog 17 #[.agg #[vi ki i, vi ki u]] w fun r' w' => r' = zr (.bool false) ∧ Below w.heap.size w w'))
  (w : World) (hL : Hid (∀ W : World, Below w.heap.size w W → Ok W)) :
  Calls Tryz.prog 6 #[.agg T.toArray, .agg #[vi ki i, vi ki u], .agg #[vi ki bi, vi ki bu], .agg #[vi ki j, vi ki M, vi ki D, vi ki U], vi ki m] w fun r' w' => r' = zr (.tuple #[.slice none 0 0, vi ki 1]) ∧ Below w.heap.size w w' := by
 have K0 := bsn4 w T 46 [vi ki i, vi ki u] 36 [vi ki bi, vi ki bu] 36 [vi ki j, vi ki M, vi ki D, vi ki U] 38
 go_enter Tryz.func6, Tryz.ntmps6
 generalize hUA : T.toArray = UA at *
 go_upto_region 1 with fail
 refine gen_to (BS w [(w.heap.size + 3, [vi ki j, vi ki M, vi ki D, vi ki U]), (w.heap.size + 2, [vi ki bi, vi ki bu]), (w.heap.size + 1, [vi ki i, vi ki u]), (w.heap.size, T)]) K0.out ?_
 clear K0
 intro W0 K0'
 have K0 : Hid (BS w [(w.heap.size + 3, [vi ki j, vi ki M, vi ki D, vi ki U]), (w.heap.size + 2, [vi ki bi, vi ki bu]), (w.heap.size + 1, [vi ki i, vi ki u]), (w.heap.size, T)] W0) := K0'
 clear K0'
 obtain ⟨c0_0_0, c0_0_1, c0_0_2, c0_0_3⟩ := (bo1 K0).c4
 obtain ⟨c0_1_0, c0_1_1⟩ := (bo2 K0).c2
 obtain ⟨c0_2_0, c0_2_1⟩ := (bo3 K0).c2
 go_wp2_with (first | (refine wpList_load_mid rfl 46 _ rfl (w.heap.size) 0 rfl T _ (K0.out.at (w.heap.size) T (by simp)).all Tryz.underlying46 rfl (by rw [hT]; kernel_rfl) ?_; rw [hUA]) | (refine load_mid_on (by kernel_rfl) 46 _ rfl (w.heap.size) 0 rfl T _ (K0.out.at (w.heap.size) T (by simp)).all Tryz.underlying46 rfl (by rw [hT]; kernel_rfl) ?_; rw [hUA]) | fail)
 refine (MO.out _).mono ?_
 rintro e W1 ⟨rfl, hw⟩
 rw [hw]
 clear hw W1
 go_wp2_with (first | (refine wpList_load_mid rfl 46 _ rfl (w.heap.size) 0 rfl T _ (K0.out.at (w.heap.size) T (by simp)).all Tryz.underlying46 rfl (by rw [hT]; kernel_rfl) ?_; rw [hUA]) | (refine load_mid_on (by kernel_rfl) 46 _ rfl (w.heap.size) 0 rfl T _ (K0.out.at (w.heap.size) T (by simp)).all Tryz.underlying46 rfl (by rw [hT]; kernel_rfl) ?_; rw [hUA]) | fail)
 refine (RT.out _ (hL.out _ K0.out.1)).mono ?_
 rintro e W2 ⟨rfl, hb⟩
 have K2 := bsb K0 hb
 clear c0_0_0 c0_0_1 c0_0_2 c0_0_3 c0_1_0 c0_1_1 c0_2_0 c0_2_1
 clear hb K0
 obtain ⟨c2_0_0, c2_0_1, c2_0_2, c2_0_3⟩ := (bo1 K2).c4
 obtain ⟨c2_1_0, c2_1_1⟩ := (bo2 K2).c2
 obtain ⟨c2_2_0, c2_2_1⟩ := (bo3 K2).c2
 go_wp2_with (first | (refine wpList_load_mid rfl 46 _ rfl (w.heap.size) 0 rfl T _ (K2.out.at (w.heap.size) T (by simp)).all Tryz.underlying46 rfl (by rw [hT]; kernel_rfl) ?_; rw [hUA]) | (refine load_mid_on (by kernel_rfl) 46 _ rfl (w.heap.size) 0 rfl T _ (K2.out.at (w.heap.size) T (by simp)).all Tryz.underlying46 rfl (by rw [hT]; kernel_rfl) ?_; rw [hUA]) | fail)
 refine (R1.out _ (hL.out _ K2.out.1)).mono ?_
 rintro e W3 ⟨rfl, hb⟩
 have K3 := bsb K2 hb
 clear c2_0_0 c2_0_1 c2_0_2 c2_0_3 c2_1_0 c2_1_1 c2_2_0 c2_2_1
 clear hb K2
 obtain ⟨c3_0_0, c3_0_1, c3_0_2, c3_0_3⟩ := (bo1 K3).c4
 obtain ⟨c3_1_0, c3_1_1⟩ := (bo2 K3).c2
 obtain ⟨c3_2_0, c3_2_1⟩ := (bo3 K3).c2
 go_wp2
 go_ret2
 exact ⟨rfl, K3.out.1⟩
theorem tz_no3 (Ok : World → Prop) (T : List Value) (hT : T.length = 25) (i u bi bu j M D U m : Int)
  (MO : Hid (∀ w : World, Calls Tryz.prog 15 #[vi ki m] w fun r' w' => r' = zr (.bool true) ∧ w' = w))
  (RT : Hid (∀ w : World, Ok w → Calls Tryz.prog 16 #[.agg T.toArray] w fun r' w' => r' = zr (.bool true) ∧ Below w.heap.size w w'))
  (R1 : Hid (∀ w : World, Ok w → Calls Tryz.prog 17 #[.agg #[vi ki i, vi ki u]] w fun r' w' => r' = zr (.bool true) ∧ Below w.heap.size w w'))
  (R2 : Hid (∀ w : World, Ok w → Calls Tryz.prog 17 #[.agg #[vi ki bi, vi ki bu]] w fun r' w' => r' = zr (.bool false) ∧ Below w.heap.size w w'))
  (w : World) (hL : Hid (∀ W : World, Below w.heap.size w W → Ok W)) :
  Calls Tryz.prog 6 #[.agg T.toArray, .agg #[vi ki i, vi ki u], .agg #[vi ki bi, vi ki bu], .agg #[vi ki j, vi ki M, vi ki D, vi ki U], vi ki m] w fun r' w' => r' = zr (.tuple #[.slice none 0 0, vi ki 1]) ∧ Below w.heap.size w w' := by
 have K0 := bsn4 w T 46 [vi ki i, vi ki u] 36 [vi ki bi, vi ki bu] 36 [vi ki j, vi ki M, vi ki D, vi ki U] 38
 go_enter Tryz.func6, Tryz.ntmps6
 generalize hUA : T.toArray = UA at *
 go_upto_region 1 with fail
 refine gen_to (BS w [(w.heap.size + 3, [vi ki j, vi ki M, vi ki D, vi ki U]), (w.heap.size + 2, [vi ki bi, vi ki bu]), (w.heap.size + 1, [vi ki i, vi ki u]), (w.heap.size, T)]) K0.out ?_
 clear K0
 intro W0 K0'
 have K0 : Hid (BS w [(w.heap.size + 3, [vi ki j, vi ki M, vi ki D, vi ki U]), (w.heap.size + 2, [vi ki bi, vi ki bu]), (w.heap.size + 1, [vi ki i, vi ki u]), (w.heap.size, T)] W0) := K0'
 clear K0'
 obtain ⟨c0_0_0, c0_0_1, c0_0_2, c0_0_3⟩ := (bo1 K0).c4
 obtain ⟨c0_1_0, c0_1_1⟩ := (bo2 K0).c2
 obtain ⟨c0_2_0, c0_2_1⟩ := (bo3 K0).c2
 go_wp2_with (first | (refine wpList_load_mid rfl 46 _ rfl (w.heap.size) 0 rfl T _ (K0.out.at (w.heap.size) T (by simp)).all Tryz.underlying46 rfl (by rw [hT]; kernel_rfl) ?_; rw [hUA]) | (refine load_mid_on (by kernel_rfl) 46 _ rfl (w.heap.size) 0 rfl T _ (K0.out.at (w.heap.size) T (by simp)).all Tryz.underlying46 rfl (by rw [hT]; kernel_rfl) ?_; rw [hUA]) | fail)
 refine (MO.out _).mono ?_
 rintro e W1 ⟨rfl, hw⟩
 rw [hw]
 clear hw W1
 go_wp2_with (first | (refine wpList_load_mid rfl 46 _ rfl (w.heap.size) 0 rfl T _ (K0.out.at (w.heap.size) T (by simp)).all Tryz.underlying46 rfl (by rw [hT]; kernel_rfl) ?_; rw [hUA]) | (refine load_mid_on (by kernel_rfl) 46 _ rfl (w.heap.size) 0 rfl T _ (K0.out.at (w.heap.size) T (by simp)).all Tryz.underlying46 rfl (by rw [hT]; kernel_rfl) ?_; rw [hUA]) | fail)
 refine (RT.out _ (hL.out _ K0.out.1)).mono ?_
 rintro e W2 ⟨rfl, hb⟩
 have K2 := bsb K0 hb
 clear c0_0_0 c0_0_1 c0_0_2 c0_0_3 c0_1_0 c0_1_1 c0_2_0 c0_2_1
 clear hb K0
 obtain ⟨c2_0_0, c2_0_1, c2_0_2, c2_0_3⟩ := (bo1 K2).c4
 obtain ⟨c2_1_0, c2_1_1⟩ := (bo2 K2).c2
 obtain ⟨c2_2_0, c2_2_1⟩ := (bo3 K2).c2
 go_wp2_with (first | (refine wpList_load_mid rfl 46 _ rfl (w.heap.size) 0 rfl T _ (K2.out.at (w.heap.size) T (by simp)).all Tryz.underlying46 rfl (by rw [hT]; kernel_rfl) ?_; rw [hUA]) | (refine load_mid_on (by kernel_rfl) 46 _ rfl (w.heap.size) 0 rfl T _ (K2.out.at (w.heap.size) T (by simp)).all Tryz.underlying46 rfl (by rw [hT]; kernel_rfl) ?_; rw [hUA]) | fail)
 refine (R1.out _ (hL.out _ K2.out.1)).mono ?_
 rintro e W3 ⟨rfl, hb⟩
 have K3 := bsb K2 hb
 clear c2_0_0 c2_0_1 c2_0_2 c2_0_3 c2_1_0 c2_1_1 c2_2_0 c2_2_1
 clear hb K2
 obtain ⟨c3_0_0, c3_0_1, c3_0_2, c3_0_3⟩ := (bo1 K3).c4
 obtain ⟨c3_1_0, c3_1_1⟩ := (bo2 K3).c2
 obtain ⟨c3_2_0, c3_2_1⟩ := (bo3 K3).c2
 go_wp2_with (first | (refine wpList_load_mid rfl 46 _ rfl (w.heap.size) 0 rfl T _ (K3.out.at (w.heap.size) T (by simp)).all Tryz.underlying46 rfl (by rw [hT]; kernel_rfl) ?_; rw [hUA]) | (refine load_mid_on (by kernel_rfl) 46 _ rfl (w.heap.size) 0 rfl T _ (K3.out.at (w.heap.size) T (by simp)).all Tryz.underlying46 rfl (by rw [hT]; kernel_rfl) ?_; rw [hUA]) | fail)
 refine (R2.out _ (hL.out _ K3.out.1)).mono ?_
 rintro e W4 ⟨rfl, hb⟩
 have K4 := bsb K3 hb
 clear c3_0_0 c3_0_1 c3_0_2 c3_0_3 c3_1_0 c3_1_1 c3_2_0 c3_2_1
 clear hb K3
 obtain ⟨c4_0_0, c4_0_1, c4_0_2, c4_0_3⟩ := (bo1 K4).c4
 obtain ⟨c4_1_0, c4_1_1⟩ := (bo2 K4).c2
 obtain ⟨c4_2_0, c4_2_1⟩ := (bo3 K4).c2
 go_wp2
 go_ret2
 exact ⟨rfl, K4.out.1⟩
theorem tz_no4 (Ok : World → Prop) (T : List Value) (hT : T.length = 25) (i u bi bu j M D U m : Int)
  (MO : Hid (∀ w : World, Calls Tryz.prog 15 #[vi ki m] w fun r' w' => r' = zr (.bool true) ∧ w' = w))
  (RT : Hid (∀ w : World, Ok w → Calls Tryz.prog 16 #[.agg T.toArray] w fun r' w' => r' = zr (.bool true) ∧ Below w.heap.size w w'))
  (R1 : Hid (∀ w : World, Ok w → Calls Tryz.prog 17 #[.agg #[vi ki i, vi ki u]] w fun r' w' => r' = zr (.bool true) ∧ Below w.heap.size w w'))
  (R2 : Hid (∀ w : World, Ok w → Calls Tryz.prog 17 #[.agg #[vi ki bi, vi ki bu]] w fun r' w' => r' = zr (.bool true) ∧ Below w.heap.size w w'))
  (R3 : Hid (∀ w : World, Calls Tryz.prog 18 #[.agg #[vi ki j, vi ki M, vi ki D, vi ki U]] w fun r' w' => r' = zr (.bool false) ∧ Below w.heap.size w w'))
  (w : World) (hL : Hid (∀ W : World, Below w.heap.size w W → Ok W)) :
  Calls Tryz.prog 6 #[.agg T.toArray, .agg #[vi ki i, vi ki u], .agg #[vi ki bi, vi ki bu], .agg #[vi ki j, vi ki M, vi ki D, vi ki U], vi ki m] w fun r' w' => r' = zr (.tuple #[.slice none 0 0, vi ki 1]) ∧ Below w.heap.size w w' := by
 have K0 := bsn4 w T 46 [vi ki i, vi ki u] 36 [vi ki bi, vi ki bu] 36 [vi ki j, vi ki M, vi ki D, vi ki U] 38
 go_enter Tryz.func6, Tryz.ntmps6
 generalize hUA : T.toArray = UA at *
 go_upto_region 1 with fail
 refine gen_to (BS w [(w.heap.size + 3, [vi ki j, vi ki M, vi ki D, vi ki U]), (w.heap.size + 2, [vi ki bi, vi ki bu]), (w.heap.size + 1, [vi ki i, vi ki u]), (w.heap.size, T)]) K0.out ?_
 clear K0
 intro W0 K0'
 have K0 : Hid (BS w [(w.heap.size + 3, [vi ki j, vi ki M, vi ki D, vi ki U]), (w.heap.size + 2, [vi ki bi, vi ki bu]), (w.heap.size + 1, [vi ki i, vi ki u]), (w.heap.size, T)] W0) := K0'
 clear K0'
 obtain ⟨c0_0_0, c0_0_1, c0_0_2, c0_0_3⟩ := (bo1 K0).c4
 obtain ⟨c0_1_0, c0_1_1⟩ := (bo2 K0).c2
 obtain ⟨c0_2_0, c0_2_1⟩ := (bo3 K0).c2
 go_wp2_with (first | (refine wpList_load_mid rfl 46 _ rfl (w.heap.size) 0 rfl T _ (K0.out.at (w.heap.size) T (by simp)).all Tryz.underlying46 rfl (by rw [hT]; kernel_rfl) ?_; rw [hUA]) | (refine load_mid_on (by kernel_rfl) 46 _ rfl (w.heap.size) 0 rfl T _ (K0.out.at (w.heap.size) T (by simp)).all Tryz.underlying46 rfl (by rw [hT]; kernel_rfl) ?_; rw [hUA]) | fail)
 refine (MO.out _).mono ?_
 rintro e W1 ⟨rfl, hw⟩
 rw [hw]
 clear hw W1
 go_wp2_with (first | (refine wpList_load_mid rfl 46 _ rfl (w.heap.size) 0 rfl T _ (K0.out.at (w.heap.size) T (by simp)).all Tryz.underlying46 rfl (by rw [hT]; kernel_rfl) ?_; rw [hUA]) | (refine load_mid_on (by kernel_rfl) 46 _ rfl (w.heap.size) 0 rfl T _ (K0.out.at (w.heap.size) T (by simp)).all Tryz.underlying46 rfl (by rw [hT]; kernel_rfl) ?_; rw [hUA]) | fail)
 refine (RT.out _ (hL.out _ K0.out.1)).mono ?_
 rintro e W2 ⟨rfl, hb⟩
 have K2 := bsb K0 hb
 clear c0_0_0 c0_0_1 c0_0_2 c0_0_3 c0_1_0 c0_1_1 c0_2_0 c0_2_1
 clear hb K0
 obtain ⟨c2_0_0, c2_0_1, c2_0_2, c2_0_3⟩ := (bo1 K2).c4
 obtain ⟨c2_1_0, c2_1_1⟩ := (bo2 K2).c2
 obtain ⟨c2_2_0, c2_2_1⟩ := (bo3 K2).c2
 go_wp2_with (first | (refine wpList_load_mid rfl 46 _ rfl (w.heap.size) 0 rfl T _ (K2.out.at (w.heap.size) T (by simp)).all Tryz.underlying46 rfl (by rw [hT]; kernel_rfl) ?_; rw [hUA]) | (refine load_mid_on (by kernel_rfl) 46 _ rfl (w.heap.size) 0 rfl T _ (K2.out.at (w.heap.size) T (by simp)).all Tryz.underlying46 rfl (by rw [hT]; kernel_rfl) ?_; rw [hUA]) | fail)
 refine (R1.out _ (hL.out _ K2.out.1)).mono ?_
 rintro e W3 ⟨rfl, hb⟩
 have K3 := bsb K2 hb
 clear c2_0_0 c2_0_1 c2_0_2 c2_0_3 c2_1_0 c2_1_1 c2_2_0 c2_2_1
 clear hb K2
 obtain ⟨c3_0_0, c3_0_1, c3_0_2, c3_0_3⟩ := (bo1 K3).c4
 obtain ⟨c3_1_0, c3_1_1⟩ := (bo2 K3).c2
 obtain ⟨c3_2_0, c3_2_1⟩ := (bo3 K3).c2
 go_wp2_with (first | (refine wpList_load_mid rfl 46 _ rfl (w.heap.size) 0 rfl T _ (K3.out.at (w.heap.size) T (by simp)).all Tryz.underlying46 rfl (by rw [hT]; kernel_rfl) ?_; rw [hUA]) | (refine load_mid_on (by kernel_rfl) 46 _ rfl (w.heap.size) 0 rfl T _ (K3.out.at (w.heap.size) T (by simp)).all Tryz.underlying46 rfl (by rw [hT]; kernel_rfl) ?_; rw [hUA]) | fail)
 refine (R2.out _ (hL.out _ K3.out.1)).mono ?_
 rintro e W4 ⟨rfl, hb⟩
 have K4 := bsb K3 hb
 clear c3_0_0 c3_0_1 c3_0_2 c3_0_3 c3_1_0 c3_1_1 c3_2_0 c3_2_1
 clear hb K3
 obtain ⟨c4_0_0, c4_0_1, c4_0_2, c4_0_3⟩ := (bo1 K4).c4
 obtain ⟨c4_1_0, c4_1_1⟩ := (bo2 K4).c2
 obtain ⟨c4_2_0, c4_2_1⟩ := (bo3 K4).c2
 go_wp2_with (first | (refine wpList_load_mid rfl 46 _ rfl (w.heap.size) 0 rfl T _ (K4.out.at (w.heap.size) T (by simp)).all Tryz.underlying46 rfl (by rw [hT]; kernel_rfl) ?_; rw [hUA]) | (refine load_mid_on (by kernel_rfl) 46 _ rfl (w.heap.size) 0 rfl T _ (K4.out.at (w.heap.size) T (by simp)).all Tryz.underlying46 rfl (by rw [hT]; kernel_rfl) ?_; rw [hUA]) | fail)
 refine (R3.out _).mono ?_
 rintro e W5 ⟨rfl, hb⟩
 have K5 := bsb K4 hb
 clear c4_0_0 c4_0_1 c4_0_2 c4_0_3 c4_1_0 c4_1_1 c4_2_0 c4_2_1
 clear hb K4
 obtain ⟨c5_0_0, c5_0_1, c5_0_2, c5_0_3⟩ := (bo1 K5).c4
 obtain ⟨c5_1_0, c5_1_1⟩ := (bo2 K5).c2
 obtain ⟨c5_2_0, c5_2_1⟩ := (bo3 K5).c2
 go_wp2
 go_ret2
 exact ⟨rfl, K5.out.1⟩
theorem tz_run (Ok : World → Prop) (T : List Value) (hT : T.length = 25) (i u bi bu j M D U m : Int) (E : Int) (n : Nat) (cs : List Value)
  (MO : Hid (∀ w : World, Calls Tryz.prog 15 #[vi ki m] w fun r' w' => r' = zr (.bool true) ∧ w' = w))
  (RT : Hid (∀ w : World, Ok w → Calls Tryz.prog 16 #[.agg T.toArray] w fun r' w' => r' = zr (.bool true) ∧ Below w.heap.size w w'))
  (R1 : Hid (∀ w : World, Ok w → Calls Tryz.prog 17 #[.agg #[vi ki i, vi ki u]] w fun r' w' => r' = zr (.bool true) ∧ Below w.heap.size w w'))
  (R2 : Hid (∀ w : World, Ok w → Calls Tryz.prog 17 #[.agg #[vi ki bi, vi ki bu]] w fun r' w' => r' = zr (.bool true) ∧ Below w.heap.size w w'))
  (R3 : Hid (∀ w : World, Calls Tryz.prog 18 #[.agg #[vi ki j, vi ki M, vi ki D, vi ki U]] w fun r' w' => r' = zr (.bool true) ∧ Below w.heap.size w w'))
  (FO : Hid (∀ w : World, Ok w → Calls Tryz.prog 19 #[.agg #[vi ki i, vi ki u], .agg #[vi ki bi, vi ki bu], .agg #[vi ki j, vi ki M, vi ki D, vi ki U], vi ki m, .func (.func 20) #[.agg (T ++ spC j M D U).toArray] #[]] w fun r' w' => ∃ v, r' = zr (.tuple #[v, vi ki E]) ∧ Below w.heap.size w w' ∧ w'.ownsRow w.heap.size 36 2 v n cs))
  (w : World) (hL : Hid (∀ W : World, Below w.heap.size w W → Ok W)) :
  Calls Tryz.prog 6 #[.agg T.toArray, .agg #[vi ki i, vi ki u], .agg #[vi ki bi, vi ki bu], .agg #[vi ki j, vi ki M, vi ki D, vi ki U], vi ki m] w fun r' w' => ∃ v, r' = zr (.tuple #[v, vi ki E]) ∧ Below w.heap.size w w' ∧ w'.ownsRow w.heap.size 36 2 v n cs := by
 have K0 := bsn4 w T 46 [vi ki i, vi ki u] 36 [vi ki bi, vi ki bu] 36 [vi ki j, vi ki M, vi ki D, vi ki U] 38
 go_enter Tryz.func6, Tryz.ntmps6
 generalize hUA : T.toArray = UA at *
 go_upto_region 1 with fail
 refine gen_to (BS w [(w.heap.size + 3, [vi ki j, vi ki M, vi ki D, vi ki U]), (w.heap.size + 2, [vi ki bi, vi ki bu]), (w.heap.size + 1, [vi ki i, vi ki u]), (w.heap.size, T)]) K0.out ?_
 clear K0
 intro W0 K0'
 have K0 : Hid (BS w [(w.heap.size + 3, [vi ki j, vi ki M, vi ki D, vi ki U]), (w.heap.size + 2, [vi ki bi, vi ki bu]), (w.heap.size + 1, [vi ki i, vi ki u]), (w.heap.size, T)] W0) := K0'
 clear K0'
 obtain ⟨c0_0_0, c0_0_1, c0_0_2, c0_0_3⟩ := (bo1 K0).c4
 obtain ⟨c0_1_0, c0_1_1⟩ := (bo2 K0).c2
 obtain ⟨c0_2_0, c0_2_1⟩ := (bo3 K0).c2
 go_wp2_with (first | (refine wpList_load_mid rfl 46 _ rfl (w.heap.size) 0 rfl T _ (K0.out.at (w.heap.size) T (by simp)).all Tryz.underlying46 rfl (by rw [hT]; kernel_rfl) ?_; rw [hUA]) | (refine load_mid_on (by kernel_rfl) 46 _ rfl (w.heap.size) 0 rfl T _ (K0.out.at (w.heap.size) T (by simp)).all Tryz.underlying46 rfl (by rw [hT]; kernel_rfl) ?_; rw [hUA]) | fail)
 refine (MO.out _).mono ?_
 rintro e W1 ⟨rfl, hw⟩
 rw [hw]
 clear hw W1
 go_wp2_with (first | (refine wpList_load_mid rfl 46 _ rfl (w.heap.size) 0 rfl T _ (K0.out.at (w.heap.size) T (by simp)).all Tryz.underlying46 rfl (by rw [hT]; kernel_rfl) ?_; rw [hUA]) | (refine load_mid_on (by kernel_rfl) 46 _ rfl (w.heap.size) 0 rfl T _ (K0.out.at (w.heap.size) T (by simp)).all Tryz.underlying46 rfl (by rw [hT]; kernel_rfl) ?_; rw [hUA]) | fail)
 refine (RT.out _ (hL.out _ K0.out.1)).mono ?_
 rintro e W2 ⟨rfl, hb⟩
 have K2 := bsb K0 hb
 clear c0_0_0 c0_0_1 c0_0_2 c0_0_3 c0_1_0 c0_1_1 c0_2_0 c0_2_1
 clear hb K0
 obtain ⟨c2_0_0, c2_0_1, c2_0_2, c2_0_3⟩ := (bo1 K2).c4
 obtain ⟨c2_1_0, c2_1_1⟩ := (bo2 K2).c2
 obtain ⟨c2_2_0, c2_2_1⟩ := (bo3 K2).c2
 go_wp2_with (first | (refine wpList_load_mid rfl 46 _ rfl (w.heap.size) 0 rfl T _ (K2.out.at (w.heap.size) T (by simp)).all Tryz.underlying46 rfl (by rw [hT]; kernel_rfl) ?_; rw [hUA]) | (refine load_mid_on (by kernel_rfl) 46 _ rfl (w.heap.size) 0 rfl T _ (K2.out.at (w.heap.size) T (by simp)).all Tryz.underlying46 rfl (by rw [hT]; kernel_rfl) ?_; rw [hUA]) | fail)
 refine (R1.out _ (hL.out _ K2.out.1)).mono ?_
 rintro e W3 ⟨rfl, hb⟩
 have K3 := bsb K2 hb
 clear c2_0_0 c2_0_1 c2_0_2 c2_0_3 c2_1_0 c2_1_1 c2_2_0 c2_2_1
 clear hb K2
 obtain ⟨c3_0_0, c3_0_1, c3_0_2, c3_0_3⟩ := (bo1 K3).c4
 obtain ⟨c3_1_0, c3_1_1⟩ := (bo2 K3).c2
 obtain ⟨c3_2_0, c3_2_1⟩ := (bo3 K3).c2
 go_wp2_with (first | (refine wpList_load_mid rfl 46 _ rfl (w.heap.size) 0 rfl T _ (K3.out.at (w.heap.size) T (by simp)).all Tryz.underlying46 rfl (by rw [hT]; kernel_rfl) ?_; rw [hUA]) | (refine load_mid_on (by kernel_rfl) 46 _ rfl (w.heap.size) 0 rfl T _ (K3.out.at (w.heap.size) T (by simp)).all Tryz.underlying46 rfl (by rw [hT]; kernel_rfl) ?_; rw [hUA]) | fail)
 refine (R2.out _ (hL.out _ K3.out.1)).mono ?_
 rintro e W4 ⟨rfl, hb⟩
 have K4 := bsb K3 hb
 clear c3_0_0 c3_0_1 c3_0_2 c3_0_3 c3_1_0 c3_1_1 c3_2_0 c3_2_1
 clear hb K3
 obtain ⟨c4_0_0, c4_0_1, c4_0_2, c4_0_3⟩ := (bo1 K4).c4
 obtain ⟨c4_1_0, c4_1_1⟩ := (bo2 K4).c2
 obtain ⟨c4_2_0, c4_2_1⟩ := (bo3 K4).c2
 go_wp2_with (first | (refine wpList_load_mid rfl 46 _ rfl (w.heap.size) 0 rfl T _ (K4.out.at (w.heap.size) T (by simp)).all Tryz.underlying46 rfl (by rw [hT]; kernel_rfl) ?_; rw [hUA]) | (refine load_mid_on (by kernel_rfl) 46 _ rfl (w.heap.size) 0 rfl T _ (K4.out.at (w.heap.size) T (by simp)).all Tryz.underlying46 rfl (by rw [hT]; kernel_rfl) ?_; rw [hUA]) | fail)
 refine (R3.out _).mono ?_
 rintro e W5 ⟨rfl, hb⟩
 have K5 := bsb K4 hb
 clear c4_0_0 c4_0_1 c4_0_2 c4_0_3 c4_1_0 c4_1_1 c4_2_0 c4_2_1
 clear hb K4
 obtain ⟨c5_0_0, c5_0_1, c5_0_2, c5_0_3⟩ := (bo1 K5).c4
 obtain ⟨c5_1_0, c5_1_1⟩ := (bo2 K5).c2
 obtain ⟨c5_2_0, c5_2_1⟩ := (bo3 K5).c2
 obtain ⟨FA, hFA, hFS, hFZ⟩ := z29 T hT [.string ⟨#[]⟩, vi ki 0, vi ki 0, .bool false, .string ⟨#[]⟩, .slice none 0 0, .bool false, vi ki 0, vi ki 0, vi ki 0, vi ki 0, vi ki 0, vi ki 0, vi ki 0, .int .u8 0, vi ki 0, .string ⟨#[]⟩, vi ki 0, vi ki 0, vi ki 0, vi ki 0, vi ki 0, .int .u8 0, vi ki 0, .string ⟨#[]⟩, vi ki 0, vi ki 0, vi ki 0, vi ki 0] rfl j M D U
 rw [hUA] at hFA
 have HZ : Hid (_ = (T ++ spC j M D U).toArray) := hFZ
 clear hFZ
 have hUS : UA.size = 25 := by rw [← hUA]; exact hT
 go_wp2_with (first | (refine wpList_load_mid rfl 46 _ rfl (w.heap.size) 0 rfl T _ (K5.out.at (w.heap.size) T (by simp)).all Tryz.underlying46 rfl (by rw [hT]; kernel_rfl) ?_; rw [hUA]) | (refine load_mid_on (by kernel_rfl) 46 _ rfl (w.heap.size) 0 rfl T _ (K5.out.at (w.heap.size) T (by simp)).all Tryz.underlying46 rfl (by rw [hT]; kernel_rfl) ?_; rw [hUA]) | fail)
 rw [HZ.out]
 refine (FO.out _ (hL.out _ K5.out.1)).mono ?_
 rintro e W9 ⟨v, rfl, hb, ho⟩
 have K9 := bsb K5 hb
 have HO9 : Hid (W9.ownsRow w.heap.size 36 2 v n cs) := own_mono ho K5.out.1.size
 clear c5_0_0 c5_0_1 c5_0_2 c5_0_3 c5_1_0 c5_1_1 c5_2_0 c5_2_1
 clear hb ho K5
 go_wp2_with fail
 exact bodyPost_ret (v := .tuple #[v, vi ki E]) (by simp [results, Tryz.results6, go_sem]) rfl ⟨_, rfl, K9.out.1, HO9.out⟩
theorem cT_get : ∀ {L : List Int} {j : Nat} {x : Int}, L[j]? = some x → (cT L)[j * 2]? = some (vi ki 0) ∧ (cT L)[j * 2 + 1]? = some (vi ki x)
 | [], j, x, h => by simp at h
 | a :: l, 0, x, h => by
  simp at h
  subst h
  exact ⟨rfl, rfl⟩
 | a :: l, j + 1, x, h => by
  have ih := cT_get (L := l) (j := j) (x := x) (by simpa using h)
  have e : cT (a :: l) = [vi ki 0, vi ki a] ++ cT l := rfl
  rw [e, List.getElem?_append_right (by simp; omega), List.getElem?_append_right (by simp; omega)]
  simp only [List.length_cons, List.length_nil]
  rw [show (j + 1) * 2 - (0 + 1 + 1) = j * 2 by omega, show (j + 1) * 2 + 1 - (0 + 1 + 1) = j * 2 + 1 by omega]
  exact ih
def TRow (W : World) (v : Value) (L : List Int) : Prop := ∃ ao c, v = .slice ao L.length c ∧ ∀ j x, L[j]? = some x → ∃ g, ao = some ⟨g, 0, none⟩ ∧ W.cell? ⟨g, j * 2, none⟩ = some (vi ki 0) ∧ W.cell? ⟨g, j * 2 + 1, none⟩ = some (vi ki x)
theorem TRow.below {W V : World} {v : Value} {L : List Int} (h : TRow W v L) (hb : Below W.heap.size W V) : TRow V v L := by
 obtain ⟨ao, c, e, h⟩ := h
 refine ⟨ao, c, e, fun j x hj => ?_⟩
 obtain ⟨g, ea, h1, h2⟩ := h j x hj
 exact ⟨g, ea, (hb.cell (World.block_lt_of_cell? W _ h1)).trans h1, (hb.cell (World.block_lt_of_cell? W _ h2)).trans h2⟩
theorem TRow.drew {W : World} {v : Value} {L : List Int} (h : TRow W v L) : TRow W.drew v L := h
theorem TRow.of_bx {W : World} {g n : Nat} {L : List Int} (h : Bx W g (cT L)) (hn : L.length = n) : TRow W (.slice (some ⟨g, 0, none⟩) n n) L :=
 ⟨_, _, by rw [hn], fun j x hj => ⟨g, rfl, h.c _ (cT_get hj).1, h.c _ (cT_get hj).2⟩⟩
theorem TRow.of_own {W : World} {base : Nat} {v : Value} {L : List Int} (h : W.ownsRow base 36 2 v L.length (cT L)) : TRow W v L := by
 obtain ⟨ao, c, rfl, _, _⟩ := own_form h
 refine ⟨ao, c, rfl, fun j x hj => ?_⟩
 have hl := (List.getElem?_eq_some_iff.1 hj).1
 rcases h.2 with ⟨e, z⟩ | ⟨g, cap, cur, e, _⟩
 ·rw [z] at hl; omega
 ·obtain ⟨rfl, _, rfl⟩ : ao = some ⟨g, 0, none⟩ ∧ L.length = L.length ∧ c = cap := by simpa using e
  exact ⟨g, rfl, (h.cellAt (j * 2) (by omega)).trans (cT_get hj).1, (h.cellAt (j * 2 + 1) (by omega)).trans (cT_get hj).2⟩
theorem stamp_eq (i u j v : Int) (w : World) : (Op.equalIn 10000 36 (.agg #[vi ki i, vi ki u]) (.agg #[vi ki j, vi ki v])).run Tryz.prog w = .ok (decide (i = j) && decide (u = v)) w := by
 rw [run_equalIn_struct w 9999 36 _ _ (by kernel_rfl) (by kernel_rfl)]
 go_simp
 simp only [ite_okS]
 congr 1
 rw [Bool.eq_iff_iff]
 simp only [Bool.and_eq_true, decide_eq_true_eq, and_true]
theorem Same_yes (v u : Value) (L : List Int) (hl : L.length ≤ 1000) (w : World) (H1 : Hid (TRow w v L)) (H2 : Hid (TRow w u L)) : Calls Tryz.prog 13 #[v, u] w fun r w' => r = zr (.bool true) ∧ Below w.heap.size w w' := by
 obtain ⟨ao, c, rfl, h1⟩ := H1.out
 obtain ⟨bo, d, rfl, h2⟩ := H2.out
 have HA : Hid (∀ j x, L[j]? = some x → ∃ g, ao = some ⟨g, 0, none⟩ ∧ w.cell? ⟨g, j * 2, none⟩ = some (vi ki 0) ∧ w.cell? ⟨g, j * 2 + 1, none⟩ = some (vi ki x)) := h1
 have HC : Hid (∀ j x, L[j]? = some x → ∃ g, bo = some ⟨g, 0, none⟩ ∧ w.cell? ⟨g, j * 2, none⟩ = some (vi ki 0) ∧ w.cell? ⟨g, j * 2 + 1, none⟩ = some (vi ki x)) := h2
 clear h1 h2 H1 H2
 obtain ⟨n, hn⟩ : ∃ n, L.length = n := ⟨_, rfl⟩
 rw [hn] at hl ⊢
 have HN : Hid (L.length = n) := hn
 clear hn
 go_enter Tryz.func13, Tryz.ntmps13
 go_wp2_with fail
 go_loopw [5] (fun iv W => ∃ i : Nat, i ≤ n ∧ iv = vi ki (i : Int) ∧ Hid (Below w.heap.size w W)) (fun iv _ => n - (intOf iv).toNat)
 case atStart => exact ⟨0, Nat.zero_le _, rfl, Below.refl _ _⟩
 case round =>
  obtain ⟨i, hi, rfl, HB⟩ := hrel
  by_cases hlt : i < n
  ·obtain ⟨x, hx⟩ : ∃ x, L[i]? = some x := ⟨L[i]'(by rw [HN.out]; exact hlt), List.getElem?_eq_getElem (by rw [HN.out]; exact hlt)⟩
   obtain ⟨g, rfl, a1, a2⟩ := HA.out i x hx
   obtain ⟨f, rfl, b1, b2⟩ := HC.out i x hx
   have mv : ∀ {p : Addr} {q : Value}, w.cell? p = some q → wr.cell? p = some q := fun h => (HB.out.cell (World.block_lt_of_cell? w _ h)).trans h
   have HH : Hid ((fun W : World => (W.cell? ⟨g, i * 2, none⟩ = some (vi ki 0) ∧ W.cell? ⟨g, i * 2 + 1, none⟩ = some (vi ki x)) ∧ W.cell? ⟨f, i * 2, none⟩ = some (vi ki 0) ∧ W.cell? ⟨f, i * 2 + 1, none⟩ = some (vi ki x)) wr) := ⟨⟨mv a1, mv a2⟩, mv b1, mv b2⟩
   have EQ : ∀ w : World, (Op.equalIn 10000 36 (.agg #[vi ki 0, vi ki x]) (.agg #[vi ki 0, vi ki x])).run Tryz.prog w = .ok true w := fun w => by rw [stamp_eq]; simp
   clear a1 a2 b1 b2 hx HA HC mv
   go_wp2_with fail
   refine wp_region_held_drew (S := fun W : World => ((W.cell? ⟨g, i * 2, none⟩ = some (vi ki 0) ∧ W.cell? ⟨g, i * 2 + 1, none⟩ = some (vi ki x)) ∧ W.cell? ⟨f, i * 2, none⟩ = some (vi ki 0) ∧ W.cell? ⟨f, i * 2 + 1, none⟩ = some (vi ki x)) ∧ Below w.heap.size w W) (by kernel_rfl) ⟨HH.out, HB.out.drew⟩ (fun hHeld => ?_)
   refine tks 0 ⟨some 17, _, _, _, _, none⟩ rfl ?_
   simp only [za, zb, zc, zd]
   refine tks 1 ⟨some 18, _, _, _, _, none⟩ rfl ?_
   simp only [za, zb, zc, zd]
   refine tks 2 ⟨some 19, _, _, _, _, none⟩ rfl ?_
   simp only [za, zb, zc, zd]
   refine tk (v := ?_) 3 ⟨some 20, _, _, _, _, none⟩ rfl ?_ ?_
   case refine_2 => (intro w9 hSw; obtain ⟨⟨⟨la, lb⟩, lc, le⟩, _⟩ := hSw; go_simp; try with_reducible rfl)
   simp only [za, zb, zc, zd]
   refine tks 4 ⟨some 21, _, _, _, _, none⟩ rfl ?_
   simp only [za, zb, zc, zd]
   refine tks 5 ⟨some 22, _, _, _, _, none⟩ rfl ?_
   simp only [za, zb, zc, zd]
   refine tks 6 ⟨some 23, _, _, _, _, none⟩ rfl ?_
   simp only [za, zb, zc, zd]
   refine tk (v := ?_) 7 ⟨some 24, _, _, _, _, none⟩ rfl ?_ ?_
   case refine_2 => (intro w9 hSw; obtain ⟨⟨⟨la, lb⟩, lc, le⟩, _⟩ := hSw; go_simp; try with_reducible rfl)
   simp only [za, zb, zc, zd]
   refine tks 8 ⟨some 25, _, _, _, _, none⟩ rfl ?_
   simp only [za, zb, zc, zd]
   refine wpAnyH_done (by kernel_rfl) ?_ _
   go_wp2_with fail
   go_roundw
   case rel => exact ⟨i + 1, by omega, by go_num, hHeld.2⟩
   case measure => simp [intOf]; omega
  ·go_wp2_with fail
   go_ret
   exact ⟨rfl, HB.out⟩
theorem at_any (y m d i D e I U f : Int)
  (MK : Hid (∀ w : World, Calls Tryz.prog 41 #[vi ki y, vi ki m, vi ki d] w fun r' w' => r' = zr (.tuple #[.agg #[vi ki i, vi ki D], vi ki e]) ∧ Below w.heap.size w w'))
  (SA : Hid (∀ w : World, Calls Tryz.prog 42 #[.agg #[vi ki i, vi ki D]] w fun r' w' => r' = zr (.tuple #[.agg #[vi ki I, vi ki U], vi ki f]) ∧ Below w.heap.size w w'))
  (w : World) :
  Calls Tryz.prog 22 #[vi ki y, vi ki m, vi ki d] w fun r' w' => r' = zr (.agg #[vi ki I, vi ki U]) ∧ Below w.heap.size w w' := by
 have K0 := bsn1 w [vi ki 0, vi ki 0] 36
 go_enter Tryz.func22, Tryz.ntmps22
 go_wp2_with fail
 refine (MK.out _).mono ?_
 rintro e W1 ⟨rfl, hb⟩
 have K1 := bsb K0 hb
 clear hb K0
 obtain ⟨c1_0_0, c1_0_1⟩ := (bo1 K1).c2
 have Mz1 := bsn K1 [vi ki i, vi ki D] 95
 have lt1_0 := (bo1 K1).1
 go_upto_region 2 with fail
 refine bs_to Mz1 ?_
 clear c1_0_0 c1_0_1
 intro W2 K2
 clear Mz1 K1
 obtain ⟨c2_0_0, c2_0_1⟩ := (bo1 K2).c2
 obtain ⟨c2_1_0, c2_1_1⟩ := (bo2 K2).c2
 go_wp2_with fail
 refine (SA.out _).mono ?_
 rintro e W3 ⟨rfl, hb⟩
 have K3 := bsb K2 hb
 clear c2_0_0 c2_0_1 c2_1_0 c2_1_1
 clear hb K2
 obtain ⟨c3_0_0, c3_0_1⟩ := (bo1 K3).c2
 obtain ⟨c3_1_0, c3_1_1⟩ := (bo2 K3).c2
 have Mz3 := bsn K3 [vi ki I, vi ki U] 36
 have lt3_0 := (bo1 K3).1
 have lt3_1 := (bo2 K3).1
 go_upto_region 3 with fail
 refine bs_to Mz3 ?_
 clear c3_0_0 c3_0_1 c3_1_0 c3_1_1
 intro W4 K4
 clear Mz3 K3
 obtain ⟨c4_0_0, c4_0_1⟩ := (bo1 K4).c2
 obtain ⟨c4_1_0, c4_1_1⟩ := (bo2 K4).c2
 obtain ⟨c4_2_0, c4_2_1⟩ := (bo3 K4).c2
 obtain ⟨z4_2_0, z4_2_1⟩ := (bo3 K4).f2
 have XF : Hid (Bx (W4.setCells (w.heap.size) 0 [vi ki I, vi ki U]) (w.heap.size) [vi ki I, vi ki U]) := (K4.out.at (w.heap.size) [vi ki 0, vi ki 0] (by simp)).setAll _ rfl
 have BF : Hid (Below w.heap.size w (W4.setCells (w.heap.size) 0 [vi ki I, vi ki U])) := below_setCells (by omega) _ _ _ K4.out.1
 have y0 := XF.out.c 0 rfl
 have y1 := XF.out.c 1 rfl
 simp only [World.setCells, Nat.zero_add] at y0 y1
 clear XF
 go_wp2
 exact bodyPost_ret (v := .agg #[vi ki I, vi ki U]) (by simp [results, Tryz.results22, go_sem, y0, y1]) rfl ⟨rfl, BF.out⟩
theorem sts_run (i u bi bu j M D U m : Int) (E : Int) (n : Nat) (cs : List Value)
  (MO : Hid (∀ w : World, Calls Tryz.prog 15 #[vi ki m] w fun r' w' => r' = zr (.bool true) ∧ w' = w))
  (R1 : Hid (∀ w : World, Cvl.Lens w → Calls Tryz.prog 17 #[.agg #[vi ki i, vi ki u]] w fun r' w' => r' = zr (.bool true) ∧ Below w.heap.size w w'))
  (R2 : Hid (∀ w : World, Cvl.Lens w → Calls Tryz.prog 17 #[.agg #[vi ki bi, vi ki bu]] w fun r' w' => r' = zr (.bool true) ∧ Below w.heap.size w w'))
  (R3 : Hid (∀ w : World, Calls Tryz.prog 18 #[.agg #[vi ki j, vi ki M, vi ki D, vi ki U]] w fun r' w' => r' = zr (.bool true) ∧ Below w.heap.size w w'))
  (FO : Hid (∀ w : World, Cvl.Lens w → Calls Tryz.prog 19 #[.agg #[vi ki i, vi ki u], .agg #[vi ki bi, vi ki bu], .agg #[vi ki j, vi ki M, vi ki D, vi ki U], vi ki m, .func (.func 31) #[.agg #[vi ki j, vi ki M, vi ki D, vi ki U]] #[]] w fun r' w' => ∃ v, r' = zr (.tuple #[v, vi ki E]) ∧ Below w.heap.size w w' ∧ w'.ownsRow w.heap.size 36 2 v n cs))
  (w : World) (hL : Hid (∀ W : World, Below w.heap.size w W → Cvl.Lens W)) :
  Calls Tryz.prog 12 #[.agg #[vi ki i, vi ki u], .agg #[vi ki bi, vi ki bu], .agg #[vi ki j, vi ki M, vi ki D, vi ki U], vi ki m] w fun r' w' => ∃ v, r' = zr (.tuple #[v, vi ki E]) ∧ Below w.heap.size w w' ∧ w'.ownsRow w.heap.size 36 2 v n cs := by
 have K0 := bsn3 w [vi ki i, vi ki u] 36 [vi ki bi, vi ki bu] 36 [vi ki j, vi ki M, vi ki D, vi ki U] 38
 go_enter Tryz.func12, Tryz.ntmps12
 go_wp2_with fail
 refine (MO.out _).mono ?_
 rintro e W1 ⟨rfl, rfl⟩
 go_wp2_with fail
 refine (R1.out _ (hL.out _ K0.out.1)).mono ?_
 rintro e W2 ⟨rfl, hb⟩
 have K2 := bsb K0 hb
 clear hb K0
 obtain ⟨c2_0_0, c2_0_1, c2_0_2, c2_0_3⟩ := (bo1 K2).c4
 obtain ⟨c2_1_0, c2_1_1⟩ := (bo2 K2).c2
 obtain ⟨c2_2_0, c2_2_1⟩ := (bo3 K2).c2
 go_wp2_with fail
 refine (R2.out _ (hL.out _ K2.out.1)).mono ?_
 rintro e W3 ⟨rfl, hb⟩
 have K3 := bsb K2 hb
 clear c2_0_0 c2_0_1 c2_0_2 c2_0_3 c2_1_0 c2_1_1 c2_2_0 c2_2_1
 clear hb K2
 obtain ⟨c3_0_0, c3_0_1, c3_0_2, c3_0_3⟩ := (bo1 K3).c4
 obtain ⟨c3_1_0, c3_1_1⟩ := (bo2 K3).c2
 obtain ⟨c3_2_0, c3_2_1⟩ := (bo3 K3).c2
 go_wp2_with fail
 refine (R3.out _).mono ?_
 rintro e W4 ⟨rfl, hb⟩
 have K4 := bsb K3 hb
 clear c3_0_0 c3_0_1 c3_0_2 c3_0_3 c3_1_0 c3_1_1 c3_2_0 c3_2_1
 clear hb K3
 obtain ⟨c4_0_0, c4_0_1, c4_0_2, c4_0_3⟩ := (bo1 K4).c4
 obtain ⟨c4_1_0, c4_1_1⟩ := (bo2 K4).c2
 obtain ⟨c4_2_0, c4_2_1⟩ := (bo3 K4).c2
 go_wp2_with fail
 refine (FO.out _ (hL.out _ K4.out.1)).mono ?_
 rintro e W9 ⟨v, rfl, hb, ho⟩
 have K9 := bsb K4 hb
 have HO9 : Hid (W9.ownsRow w.heap.size 36 2 v n cs) := own_mono ho K4.out.1.size
 clear c4_0_0 c4_0_1 c4_0_2 c4_0_3 c4_1_0 c4_1_1 c4_2_0 c4_2_1
 clear hb ho K4
 go_wp2_with fail
 exact bodyPost_ret (v := .tuple #[v, vi ki E]) (by simp [results, Tryz.results12, go_sem]) rfl ⟨_, rfl, K9.out.1, HO9.out⟩
end Go.Proofs.YtpdmndlpgjjopaaGreatDoor
namespace Go.Proofs.YtpdmndlpgjjopaaGreatDoor.Sp
open Go.RowKit
theorem level_run (i m d u q r : Int) (m1 : -2147483647 ≤ m) (m2 : m ≤ 2147483647) (d1 : -2147483647 ≤ d) (d2 : d ≤ 2147483647) (q1 : -1000000000 ≤ q) (q2 : q ≤ 1000000000)
  (S : Hid (∀ w : World, Calls Tryz.prog 34 #[vi ki u] w fun r' w' => r' = zr (.tuple #[vi ki q, vi ki r]) ∧ w' = w))
  (w : World) :
  Calls Tryz.prog 61 #[.agg #[vi ki i, vi ki m, vi ki d, vi ki u]] w fun r' w' => r' = zr (.agg #[vi ki i, vi ki 0, vi ki (m * 30 + d + q), vi ki r]) ∧ Below w.heap.size w w' := by
 have K0 := bsn2 w [vi ki i, vi ki m, vi ki d, vi ki u] 38 [vi ki 0, vi ki 0, vi ki 0, vi ki 0] 38
 go_enter Tryz.func61, Tryz.ntmps61
 go_wp2_with fail
 refine (S.out _).mono ?_
 rintro e W1 ⟨rfl, rfl⟩
 go_wp2
 exact bodyPost_ret (v := .agg #[vi ki i, vi ki 0, vi ki (m * 30 + d + q), vi ki r]) (by simp [results, Tryz.results61, go_sem]) rfl ⟨rfl, (by repeat' (first | assumption | exact Below.refl _ _ | exact Nat.le_refl _ | refine Below.alloc ?_ ?_ _ | (simp; done) | (simp; omega) | omega))⟩
def lvD (m d u : Int) : Int := m * 30 + d + u / 86400000000
def lvU (u : Int) : Int := u % 86400000000
theorem level_any (i m d u : Int) (m1 : -2147483647 ≤ m) (m2 : m ≤ 2147483647) (d1 : -2147483647 ≤ d) (d2 : d ≤ 2147483647) (u1 : -9223372036854775808 ≤ u) (u2 : u ≤ 9223372036854775807) (w : World) :
  Calls Tryz.prog 61 #[.agg #[vi ki i, vi ki m, vi ki d, vi ki u]] w fun r w' => r = zr (.agg #[vi ki i, vi ki 0, vi ki (lvD m d u), vi ki (lvU u)]) ∧ Below w.heap.size w w' :=
 level_run i m d u _ _ m1 m2 d1 d2 (by omega) (by omega) (fun w => split_any u u1 u2 w) w
theorem psign_no (i m d u : Int)
  (R : Hid (∀ w : World, Calls Tryz.prog 18 #[.agg #[vi ki i, vi ki m, vi ki d, vi ki u]] w fun r' w' => r' = zr (.bool false) ∧ Below w.heap.size w w'))
  (w : World) :
  Calls Tryz.prog 37 #[.agg #[vi ki i, vi ki m, vi ki d, vi ki u]] w fun r' w' => r' = zr (vi ki 0) ∧ Below w.heap.size w w' := by
 have K0 := bsn1 w [vi ki i, vi ki m, vi ki d, vi ki u] 38
 go_enter Tryz.func37, Tryz.ntmps37
 go_wp2_with fail
 refine (R.out _).mono ?_
 rintro e W1 ⟨rfl, hb⟩
 have K1 : Hid (BS w [(w.heap.size, [vi ki i, vi ki m, vi ki d, vi ki u])] W1) := K0.out.below hb
 clear hb K0
 have c1_0_0 : W1.cell? ⟨w.heap.size, 0, none⟩ = some (vi ki i) := (K1.out.at (w.heap.size) [vi ki i, vi ki m, vi ki d, vi ki u] (by simp)).c 0 rfl
 have c1_0_1 : W1.cell? ⟨w.heap.size, 1, none⟩ = some (vi ki m) := (K1.out.at (w.heap.size) [vi ki i, vi ki m, vi ki d, vi ki u] (by simp)).c 1 rfl
 have c1_0_2 : W1.cell? ⟨w.heap.size, 2, none⟩ = some (vi ki d) := (K1.out.at (w.heap.size) [vi ki i, vi ki m, vi ki d, vi ki u] (by simp)).c 2 rfl
 have c1_0_3 : W1.cell? ⟨w.heap.size, 3, none⟩ = some (vi ki u) := (K1.out.at (w.heap.size) [vi ki i, vi ki m, vi ki d, vi ki u] (by simp)).c 3 rfl
 go_wp2
 go_ret
 exact ⟨rfl, K1.out.1⟩
theorem psign_z (m d u : Int) 
  (R : Hid (∀ w : World, Calls Tryz.prog 18 #[.agg #[vi ki 0, vi ki m, vi ki d, vi ki u]] w fun r' w' => r' = zr (.bool true) ∧ Below w.heap.size w w'))
  (L : Hid (∀ w : World, Calls Tryz.prog 61 #[.agg #[vi ki 0, vi ki m, vi ki d, vi ki u]] w fun r' w' => r' = zr (.agg #[vi ki 0, vi ki 0, vi ki 0, vi ki 0]) ∧ Below w.heap.size w w'))
  (w : World) :
  Calls Tryz.prog 37 #[.agg #[vi ki 0, vi ki m, vi ki d, vi ki u]] w fun r' w' => r' = zr (vi ki 0) ∧ Below w.heap.size w w' := by
 have K0 := bsn1 w [vi ki 0, vi ki m, vi ki d, vi ki u] 38
 go_enter Tryz.func37, Tryz.ntmps37
 go_wp2_with fail
 refine (R.out _).mono ?_
 rintro e W1 ⟨rfl, hb⟩
 have K1 : Hid (BS w [(w.heap.size, [vi ki 0, vi ki m, vi ki d, vi ki u])] W1) := K0.out.below hb
 clear hb K0
 have c1_0_0 : W1.cell? ⟨w.heap.size, 0, none⟩ = some (vi ki 0) := (K1.out.at (w.heap.size) [vi ki 0, vi ki m, vi ki d, vi ki u] (by simp)).c 0 rfl
 have c1_0_1 : W1.cell? ⟨w.heap.size, 1, none⟩ = some (vi ki m) := (K1.out.at (w.heap.size) [vi ki 0, vi ki m, vi ki d, vi ki u] (by simp)).c 1 rfl
 have c1_0_2 : W1.cell? ⟨w.heap.size, 2, none⟩ = some (vi ki d) := (K1.out.at (w.heap.size) [vi ki 0, vi ki m, vi ki d, vi ki u] (by simp)).c 2 rfl
 have c1_0_3 : W1.cell? ⟨w.heap.size, 3, none⟩ = some (vi ki u) := (K1.out.at (w.heap.size) [vi ki 0, vi ki m, vi ki d, vi ki u] (by simp)).c 3 rfl
 go_wp2_with fail
 refine (L.out _).mono ?_
 rintro e W2 ⟨rfl, hb⟩
 have K2 : Hid (BS w [(w.heap.size, [vi ki 0, vi ki m, vi ki d, vi ki u])] W2) := K1.out.below hb
 clear c1_0_0 c1_0_1 c1_0_2 c1_0_3
 clear hb K1
 have c2_0_0 : W2.cell? ⟨w.heap.size, 0, none⟩ = some (vi ki 0) := (K2.out.at (w.heap.size) [vi ki 0, vi ki m, vi ki d, vi ki u] (by simp)).c 0 rfl
 have z2_0_0 : W2.frozen? ⟨w.heap.size, 0, none⟩ = false := (K2.out.at (w.heap.size) [vi ki 0, vi ki m, vi ki d, vi ki u] (by simp)).f 0 rfl
 have c2_0_1 : W2.cell? ⟨w.heap.size, 1, none⟩ = some (vi ki m) := (K2.out.at (w.heap.size) [vi ki 0, vi ki m, vi ki d, vi ki u] (by simp)).c 1 rfl
 have z2_0_1 : W2.frozen? ⟨w.heap.size, 1, none⟩ = false := (K2.out.at (w.heap.size) [vi ki 0, vi ki m, vi ki d, vi ki u] (by simp)).f 1 rfl
 have c2_0_2 : W2.cell? ⟨w.heap.size, 2, none⟩ = some (vi ki d) := (K2.out.at (w.heap.size) [vi ki 0, vi ki m, vi ki d, vi ki u] (by simp)).c 2 rfl
 have z2_0_2 : W2.frozen? ⟨w.heap.size, 2, none⟩ = false := (K2.out.at (w.heap.size) [vi ki 0, vi ki m, vi ki d, vi ki u] (by simp)).f 2 rfl
 have c2_0_3 : W2.cell? ⟨w.heap.size, 3, none⟩ = some (vi ki u) := (K2.out.at (w.heap.size) [vi ki 0, vi ki m, vi ki d, vi ki u] (by simp)).c 3 rfl
 have z2_0_3 : W2.frozen? ⟨w.heap.size, 3, none⟩ = false := (K2.out.at (w.heap.size) [vi ki 0, vi ki m, vi ki d, vi ki u] (by simp)).f 3 rfl
 have Mz2 : Hid (BS w [(w.heap.size, [vi ki 0, vi ki 0, vi ki 0, vi ki 0])] (W2.setCells (w.heap.size) 0 [vi ki 0, vi ki 0, vi ki 0, vi ki 0])) := K2.out.set [vi ki 0, vi ki 0, vi ki 0, vi ki 0] rfl (fun x hx => by cases hx)
 go_upto_region 4 with fail
 refine gen_to (BS w [(w.heap.size, [vi ki 0, vi ki 0, vi ki 0, vi ki 0])]) Mz2.out ?_
 clear c2_0_0 z2_0_0 c2_0_1 z2_0_1 c2_0_2 z2_0_2 c2_0_3 z2_0_3
 intro W3 K3'
 have K3 : Hid (BS w [(w.heap.size, [vi ki 0, vi ki 0, vi ki 0, vi ki 0])] W3) := K3'
 clear K3' Mz2 K2
 have c3_0_0 : W3.cell? ⟨w.heap.size, 0, none⟩ = some (vi ki 0) := (K3.out.at (w.heap.size) [vi ki 0, vi ki 0, vi ki 0, vi ki 0] (by simp)).c 0 rfl
 have c3_0_1 : W3.cell? ⟨w.heap.size, 1, none⟩ = some (vi ki 0) := (K3.out.at (w.heap.size) [vi ki 0, vi ki 0, vi ki 0, vi ki 0] (by simp)).c 1 rfl
 have c3_0_2 : W3.cell? ⟨w.heap.size, 2, none⟩ = some (vi ki 0) := (K3.out.at (w.heap.size) [vi ki 0, vi ki 0, vi ki 0, vi ki 0] (by simp)).c 2 rfl
 have c3_0_3 : W3.cell? ⟨w.heap.size, 3, none⟩ = some (vi ki 0) := (K3.out.at (w.heap.size) [vi ki 0, vi ki 0, vi ki 0, vi ki 0] (by simp)).c 3 rfl
 go_wp2
 go_ret
 exact ⟨rfl, K3.out.1⟩
theorem psign_m (m d u : Int) 
  (R : Hid (∀ w : World, Calls Tryz.prog 18 #[.agg #[vi ki (-1), vi ki m, vi ki d, vi ki u]] w fun r' w' => r' = zr (.bool true) ∧ Below w.heap.size w w'))
  (L : Hid (∀ w : World, Calls Tryz.prog 61 #[.agg #[vi ki (-1), vi ki m, vi ki d, vi ki u]] w fun r' w' => r' = zr (.agg #[vi ki (-1), vi ki 0, vi ki 0, vi ki 0]) ∧ Below w.heap.size w w'))
  (w : World) :
  Calls Tryz.prog 37 #[.agg #[vi ki (-1), vi ki m, vi ki d, vi ki u]] w fun r' w' => r' = zr (vi ki (-1)) ∧ Below w.heap.size w w' := by
 have K0 := bsn1 w [vi ki (-1), vi ki m, vi ki d, vi ki u] 38
 go_enter Tryz.func37, Tryz.ntmps37
 go_wp2_with fail
 refine (R.out _).mono ?_
 rintro e W1 ⟨rfl, hb⟩
 have K1 : Hid (BS w [(w.heap.size, [vi ki (-1), vi ki m, vi ki d, vi ki u])] W1) := K0.out.below hb
 clear hb K0
 have c1_0_0 : W1.cell? ⟨w.heap.size, 0, none⟩ = some (vi ki (-1)) := (K1.out.at (w.heap.size) [vi ki (-1), vi ki m, vi ki d, vi ki u] (by simp)).c 0 rfl
 have c1_0_1 : W1.cell? ⟨w.heap.size, 1, none⟩ = some (vi ki m) := (K1.out.at (w.heap.size) [vi ki (-1), vi ki m, vi ki d, vi ki u] (by simp)).c 1 rfl
 have c1_0_2 : W1.cell? ⟨w.heap.size, 2, none⟩ = some (vi ki d) := (K1.out.at (w.heap.size) [vi ki (-1), vi ki m, vi ki d, vi ki u] (by simp)).c 2 rfl
 have c1_0_3 : W1.cell? ⟨w.heap.size, 3, none⟩ = some (vi ki u) := (K1.out.at (w.heap.size) [vi ki (-1), vi ki m, vi ki d, vi ki u] (by simp)).c 3 rfl
 go_wp2_with fail
 refine (L.out _).mono ?_
 rintro e W2 ⟨rfl, hb⟩
 have K2 : Hid (BS w [(w.heap.size, [vi ki (-1), vi ki m, vi ki d, vi ki u])] W2) := K1.out.below hb
 clear c1_0_0 c1_0_1 c1_0_2 c1_0_3
 clear hb K1
 have c2_0_0 : W2.cell? ⟨w.heap.size, 0, none⟩ = some (vi ki (-1)) := (K2.out.at (w.heap.size) [vi ki (-1), vi ki m, vi ki d, vi ki u] (by simp)).c 0 rfl
 have z2_0_0 : W2.frozen? ⟨w.heap.size, 0, none⟩ = false := (K2.out.at (w.heap.size) [vi ki (-1), vi ki m, vi ki d, vi ki u] (by simp)).f 0 rfl
 have c2_0_1 : W2.cell? ⟨w.heap.size, 1, none⟩ = some (vi ki m) := (K2.out.at (w.heap.size) [vi ki (-1), vi ki m, vi ki d, vi ki u] (by simp)).c 1 rfl
 have z2_0_1 : W2.frozen? ⟨w.heap.size, 1, none⟩ = false := (K2.out.at (w.heap.size) [vi ki (-1), vi ki m, vi ki d, vi ki u] (by simp)).f 1 rfl
 have c2_0_2 : W2.cell? ⟨w.heap.size, 2, none⟩ = some (vi ki d) := (K2.out.at (w.heap.size) [vi ki (-1), vi ki m, vi ki d, vi ki u] (by simp)).c 2 rfl
 have z2_0_2 : W2.frozen? ⟨w.heap.size, 2, none⟩ = false := (K2.out.at (w.heap.size) [vi ki (-1), vi ki m, vi ki d, vi ki u] (by simp)).f 2 rfl
 have c2_0_3 : W2.cell? ⟨w.heap.size, 3, none⟩ = some (vi ki u) := (K2.out.at (w.heap.size) [vi ki (-1), vi ki m, vi ki d, vi ki u] (by simp)).c 3 rfl
 have z2_0_3 : W2.frozen? ⟨w.heap.size, 3, none⟩ = false := (K2.out.at (w.heap.size) [vi ki (-1), vi ki m, vi ki d, vi ki u] (by simp)).f 3 rfl
 have Mz2 : Hid (BS w [(w.heap.size, [vi ki (-1), vi ki 0, vi ki 0, vi ki 0])] (W2.setCells (w.heap.size) 0 [vi ki (-1), vi ki 0, vi ki 0, vi ki 0])) := K2.out.set [vi ki (-1), vi ki 0, vi ki 0, vi ki 0] rfl (fun x hx => by cases hx)
 go_upto_region 4 with fail
 refine gen_to (BS w [(w.heap.size, [vi ki (-1), vi ki 0, vi ki 0, vi ki 0])]) Mz2.out ?_
 clear c2_0_0 z2_0_0 c2_0_1 z2_0_1 c2_0_2 z2_0_2 c2_0_3 z2_0_3
 intro W3 K3'
 have K3 : Hid (BS w [(w.heap.size, [vi ki (-1), vi ki 0, vi ki 0, vi ki 0])] W3) := K3'
 clear K3' Mz2 K2
 have c3_0_0 : W3.cell? ⟨w.heap.size, 0, none⟩ = some (vi ki (-1)) := (K3.out.at (w.heap.size) [vi ki (-1), vi ki 0, vi ki 0, vi ki 0] (by simp)).c 0 rfl
 have c3_0_1 : W3.cell? ⟨w.heap.size, 1, none⟩ = some (vi ki 0) := (K3.out.at (w.heap.size) [vi ki (-1), vi ki 0, vi ki 0, vi ki 0] (by simp)).c 1 rfl
 have c3_0_2 : W3.cell? ⟨w.heap.size, 2, none⟩ = some (vi ki 0) := (K3.out.at (w.heap.size) [vi ki (-1), vi ki 0, vi ki 0, vi ki 0] (by simp)).c 2 rfl
 have c3_0_3 : W3.cell? ⟨w.heap.size, 3, none⟩ = some (vi ki 0) := (K3.out.at (w.heap.size) [vi ki (-1), vi ki 0, vi ki 0, vi ki 0] (by simp)).c 3 rfl
 go_wp2
 go_ret
 exact ⟨rfl, K3.out.1⟩
theorem psign_p (m d u : Int) 
  (R : Hid (∀ w : World, Calls Tryz.prog 18 #[.agg #[vi ki 1, vi ki m, vi ki d, vi ki u]] w fun r' w' => r' = zr (.bool true) ∧ Below w.heap.size w w'))
  (L : Hid (∀ w : World, Calls Tryz.prog 61 #[.agg #[vi ki 1, vi ki m, vi ki d, vi ki u]] w fun r' w' => r' = zr (.agg #[vi ki 1, vi ki 0, vi ki 0, vi ki 0]) ∧ Below w.heap.size w w'))
  (w : World) :
  Calls Tryz.prog 37 #[.agg #[vi ki 1, vi ki m, vi ki d, vi ki u]] w fun r' w' => r' = zr (vi ki 1) ∧ Below w.heap.size w w' := by
 have K0 := bsn1 w [vi ki 1, vi ki m, vi ki d, vi ki u] 38
 go_enter Tryz.func37, Tryz.ntmps37
 go_wp2_with fail
 refine (R.out _).mono ?_
 rintro e W1 ⟨rfl, hb⟩
 have K1 : Hid (BS w [(w.heap.size, [vi ki 1, vi ki m, vi ki d, vi ki u])] W1) := K0.out.below hb
 clear hb K0
 have c1_0_0 : W1.cell? ⟨w.heap.size, 0, none⟩ = some (vi ki 1) := (K1.out.at (w.heap.size) [vi ki 1, vi ki m, vi ki d, vi ki u] (by simp)).c 0 rfl
 have c1_0_1 : W1.cell? ⟨w.heap.size, 1, none⟩ = some (vi ki m) := (K1.out.at (w.heap.size) [vi ki 1, vi ki m, vi ki d, vi ki u] (by simp)).c 1 rfl
 have c1_0_2 : W1.cell? ⟨w.heap.size, 2, none⟩ = some (vi ki d) := (K1.out.at (w.heap.size) [vi ki 1, vi ki m, vi ki d, vi ki u] (by simp)).c 2 rfl
 have c1_0_3 : W1.cell? ⟨w.heap.size, 3, none⟩ = some (vi ki u) := (K1.out.at (w.heap.size) [vi ki 1, vi ki m, vi ki d, vi ki u] (by simp)).c 3 rfl
 go_wp2_with fail
 refine (L.out _).mono ?_
 rintro e W2 ⟨rfl, hb⟩
 have K2 : Hid (BS w [(w.heap.size, [vi ki 1, vi ki m, vi ki d, vi ki u])] W2) := K1.out.below hb
 clear c1_0_0 c1_0_1 c1_0_2 c1_0_3
 clear hb K1
 have c2_0_0 : W2.cell? ⟨w.heap.size, 0, none⟩ = some (vi ki 1) := (K2.out.at (w.heap.size) [vi ki 1, vi ki m, vi ki d, vi ki u] (by simp)).c 0 rfl
 have z2_0_0 : W2.frozen? ⟨w.heap.size, 0, none⟩ = false := (K2.out.at (w.heap.size) [vi ki 1, vi ki m, vi ki d, vi ki u] (by simp)).f 0 rfl
 have c2_0_1 : W2.cell? ⟨w.heap.size, 1, none⟩ = some (vi ki m) := (K2.out.at (w.heap.size) [vi ki 1, vi ki m, vi ki d, vi ki u] (by simp)).c 1 rfl
 have z2_0_1 : W2.frozen? ⟨w.heap.size, 1, none⟩ = false := (K2.out.at (w.heap.size) [vi ki 1, vi ki m, vi ki d, vi ki u] (by simp)).f 1 rfl
 have c2_0_2 : W2.cell? ⟨w.heap.size, 2, none⟩ = some (vi ki d) := (K2.out.at (w.heap.size) [vi ki 1, vi ki m, vi ki d, vi ki u] (by simp)).c 2 rfl
 have z2_0_2 : W2.frozen? ⟨w.heap.size, 2, none⟩ = false := (K2.out.at (w.heap.size) [vi ki 1, vi ki m, vi ki d, vi ki u] (by simp)).f 2 rfl
 have c2_0_3 : W2.cell? ⟨w.heap.size, 3, none⟩ = some (vi ki u) := (K2.out.at (w.heap.size) [vi ki 1, vi ki m, vi ki d, vi ki u] (by simp)).c 3 rfl
 have z2_0_3 : W2.frozen? ⟨w.heap.size, 3, none⟩ = false := (K2.out.at (w.heap.size) [vi ki 1, vi ki m, vi ki d, vi ki u] (by simp)).f 3 rfl
 have Mz2 : Hid (BS w [(w.heap.size, [vi ki 1, vi ki 0, vi ki 0, vi ki 0])] (W2.setCells (w.heap.size) 0 [vi ki 1, vi ki 0, vi ki 0, vi ki 0])) := K2.out.set [vi ki 1, vi ki 0, vi ki 0, vi ki 0] rfl (fun x hx => by cases hx)
 go_upto_region 4 with fail
 refine gen_to (BS w [(w.heap.size, [vi ki 1, vi ki 0, vi ki 0, vi ki 0])]) Mz2.out ?_
 clear c2_0_0 z2_0_0 c2_0_1 z2_0_1 c2_0_2 z2_0_2 c2_0_3 z2_0_3
 intro W3 K3'
 have K3 : Hid (BS w [(w.heap.size, [vi ki 1, vi ki 0, vi ki 0, vi ki 0])] W3) := K3'
 clear K3' Mz2 K2
 have c3_0_0 : W3.cell? ⟨w.heap.size, 0, none⟩ = some (vi ki 1) := (K3.out.at (w.heap.size) [vi ki 1, vi ki 0, vi ki 0, vi ki 0] (by simp)).c 0 rfl
 have c3_0_1 : W3.cell? ⟨w.heap.size, 1, none⟩ = some (vi ki 0) := (K3.out.at (w.heap.size) [vi ki 1, vi ki 0, vi ki 0, vi ki 0] (by simp)).c 1 rfl
 have c3_0_2 : W3.cell? ⟨w.heap.size, 2, none⟩ = some (vi ki 0) := (K3.out.at (w.heap.size) [vi ki 1, vi ki 0, vi ki 0, vi ki 0] (by simp)).c 2 rfl
 have c3_0_3 : W3.cell? ⟨w.heap.size, 3, none⟩ = some (vi ki 0) := (K3.out.at (w.heap.size) [vi ki 1, vi ki 0, vi ki 0, vi ki 0] (by simp)).c 3 rfl
 go_wp2
 go_ret
 exact ⟨rfl, K3.out.1⟩
theorem psign_lt (m d u D U : Int) (h : D < 0)
  (R : Hid (∀ w : World, Calls Tryz.prog 18 #[.agg #[vi ki 0, vi ki m, vi ki d, vi ki u]] w fun r' w' => r' = zr (.bool true) ∧ Below w.heap.size w w'))
  (L : Hid (∀ w : World, Calls Tryz.prog 61 #[.agg #[vi ki 0, vi ki m, vi ki d, vi ki u]] w fun r' w' => r' = zr (.agg #[vi ki 0, vi ki 0, vi ki D, vi ki U]) ∧ Below w.heap.size w w'))
  (w : World) :
  Calls Tryz.prog 37 #[.agg #[vi ki 0, vi ki m, vi ki d, vi ki u]] w fun r' w' => r' = zr (vi ki (-1)) ∧ Below w.heap.size w w' := by
 have h1 : (D == 0) = false := by simp; omega
 have K0 := bsn1 w [vi ki 0, vi ki m, vi ki d, vi ki u] 38
 go_enter Tryz.func37, Tryz.ntmps37
 go_wp2_with fail
 refine (R.out _).mono ?_
 rintro e W1 ⟨rfl, hb⟩
 have K1 : Hid (BS w [(w.heap.size, [vi ki 0, vi ki m, vi ki d, vi ki u])] W1) := K0.out.below hb
 clear hb K0
 have c1_0_0 : W1.cell? ⟨w.heap.size, 0, none⟩ = some (vi ki 0) := (K1.out.at (w.heap.size) [vi ki 0, vi ki m, vi ki d, vi ki u] (by simp)).c 0 rfl
 have c1_0_1 : W1.cell? ⟨w.heap.size, 1, none⟩ = some (vi ki m) := (K1.out.at (w.heap.size) [vi ki 0, vi ki m, vi ki d, vi ki u] (by simp)).c 1 rfl
 have c1_0_2 : W1.cell? ⟨w.heap.size, 2, none⟩ = some (vi ki d) := (K1.out.at (w.heap.size) [vi ki 0, vi ki m, vi ki d, vi ki u] (by simp)).c 2 rfl
 have c1_0_3 : W1.cell? ⟨w.heap.size, 3, none⟩ = some (vi ki u) := (K1.out.at (w.heap.size) [vi ki 0, vi ki m, vi ki d, vi ki u] (by simp)).c 3 rfl
 go_wp2_with fail
 refine (L.out _).mono ?_
 rintro e W2 ⟨rfl, hb⟩
 have K2 : Hid (BS w [(w.heap.size, [vi ki 0, vi ki m, vi ki d, vi ki u])] W2) := K1.out.below hb
 clear c1_0_0 c1_0_1 c1_0_2 c1_0_3
 clear hb K1
 have c2_0_0 : W2.cell? ⟨w.heap.size, 0, none⟩ = some (vi ki 0) := (K2.out.at (w.heap.size) [vi ki 0, vi ki m, vi ki d, vi ki u] (by simp)).c 0 rfl
 have z2_0_0 : W2.frozen? ⟨w.heap.size, 0, none⟩ = false := (K2.out.at (w.heap.size) [vi ki 0, vi ki m, vi ki d, vi ki u] (by simp)).f 0 rfl
 have c2_0_1 : W2.cell? ⟨w.heap.size, 1, none⟩ = some (vi ki m) := (K2.out.at (w.heap.size) [vi ki 0, vi ki m, vi ki d, vi ki u] (by simp)).c 1 rfl
 have z2_0_1 : W2.frozen? ⟨w.heap.size, 1, none⟩ = false := (K2.out.at (w.heap.size) [vi ki 0, vi ki m, vi ki d, vi ki u] (by simp)).f 1 rfl
 have c2_0_2 : W2.cell? ⟨w.heap.size, 2, none⟩ = some (vi ki d) := (K2.out.at (w.heap.size) [vi ki 0, vi ki m, vi ki d, vi ki u] (by simp)).c 2 rfl
 have z2_0_2 : W2.frozen? ⟨w.heap.size, 2, none⟩ = false := (K2.out.at (w.heap.size) [vi ki 0, vi ki m, vi ki d, vi ki u] (by simp)).f 2 rfl
 have c2_0_3 : W2.cell? ⟨w.heap.size, 3, none⟩ = some (vi ki u) := (K2.out.at (w.heap.size) [vi ki 0, vi ki m, vi ki d, vi ki u] (by simp)).c 3 rfl
 have z2_0_3 : W2.frozen? ⟨w.heap.size, 3, none⟩ = false := (K2.out.at (w.heap.size) [vi ki 0, vi ki m, vi ki d, vi ki u] (by simp)).f 3 rfl
 have Mz2 : Hid (BS w [(w.heap.size, [vi ki 0, vi ki 0, vi ki D, vi ki U])] (W2.setCells (w.heap.size) 0 [vi ki 0, vi ki 0, vi ki D, vi ki U])) := K2.out.set [vi ki 0, vi ki 0, vi ki D, vi ki U] rfl (fun x hx => by cases hx)
 go_upto_region 4 with fail
 refine gen_to (BS w [(w.heap.size, [vi ki 0, vi ki 0, vi ki D, vi ki U])]) Mz2.out ?_
 clear c2_0_0 z2_0_0 c2_0_1 z2_0_1 c2_0_2 z2_0_2 c2_0_3 z2_0_3
 intro W3 K3'
 have K3 : Hid (BS w [(w.heap.size, [vi ki 0, vi ki 0, vi ki D, vi ki U])] W3) := K3'
 clear K3' Mz2 K2
 have c3_0_0 : W3.cell? ⟨w.heap.size, 0, none⟩ = some (vi ki 0) := (K3.out.at (w.heap.size) [vi ki 0, vi ki 0, vi ki D, vi ki U] (by simp)).c 0 rfl
 have c3_0_1 : W3.cell? ⟨w.heap.size, 1, none⟩ = some (vi ki 0) := (K3.out.at (w.heap.size) [vi ki 0, vi ki 0, vi ki D, vi ki U] (by simp)).c 1 rfl
 have c3_0_2 : W3.cell? ⟨w.heap.size, 2, none⟩ = some (vi ki D) := (K3.out.at (w.heap.size) [vi ki 0, vi ki 0, vi ki D, vi ki U] (by simp)).c 2 rfl
 have c3_0_3 : W3.cell? ⟨w.heap.size, 3, none⟩ = some (vi ki U) := (K3.out.at (w.heap.size) [vi ki 0, vi ki 0, vi ki D, vi ki U] (by simp)).c 3 rfl
 go_wp2
 go_ret
 exact ⟨rfl, K3.out.1⟩
theorem psign_gt (m d u D U : Int) (h : 0 < D)
  (R : Hid (∀ w : World, Calls Tryz.prog 18 #[.agg #[vi ki 0, vi ki m, vi ki d, vi ki u]] w fun r' w' => r' = zr (.bool true) ∧ Below w.heap.size w w'))
  (L : Hid (∀ w : World, Calls Tryz.prog 61 #[.agg #[vi ki 0, vi ki m, vi ki d, vi ki u]] w fun r' w' => r' = zr (.agg #[vi ki 0, vi ki 0, vi ki D, vi ki U]) ∧ Below w.heap.size w w'))
  (w : World) :
  Calls Tryz.prog 37 #[.agg #[vi ki 0, vi ki m, vi ki d, vi ki u]] w fun r' w' => r' = zr (vi ki 1) ∧ Below w.heap.size w w' := by
 have h1 : (D == 0) = false := by simp; omega
 have h2 : ¬ D < 0 := by omega
 have K0 := bsn1 w [vi ki 0, vi ki m, vi ki d, vi ki u] 38
 go_enter Tryz.func37, Tryz.ntmps37
 go_wp2_with fail
 refine (R.out _).mono ?_
 rintro e W1 ⟨rfl, hb⟩
 have K1 : Hid (BS w [(w.heap.size, [vi ki 0, vi ki m, vi ki d, vi ki u])] W1) := K0.out.below hb
 clear hb K0
 have c1_0_0 : W1.cell? ⟨w.heap.size, 0, none⟩ = some (vi ki 0) := (K1.out.at (w.heap.size) [vi ki 0, vi ki m, vi ki d, vi ki u] (by simp)).c 0 rfl
 have c1_0_1 : W1.cell? ⟨w.heap.size, 1, none⟩ = some (vi ki m) := (K1.out.at (w.heap.size) [vi ki 0, vi ki m, vi ki d, vi ki u] (by simp)).c 1 rfl
 have c1_0_2 : W1.cell? ⟨w.heap.size, 2, none⟩ = some (vi ki d) := (K1.out.at (w.heap.size) [vi ki 0, vi ki m, vi ki d, vi ki u] (by simp)).c 2 rfl
 have c1_0_3 : W1.cell? ⟨w.heap.size, 3, none⟩ = some (vi ki u) := (K1.out.at (w.heap.size) [vi ki 0, vi ki m, vi ki d, vi ki u] (by simp)).c 3 rfl
 go_wp2_with fail
 refine (L.out _).mono ?_
 rintro e W2 ⟨rfl, hb⟩
 have K2 : Hid (BS w [(w.heap.size, [vi ki 0, vi ki m, vi ki d, vi ki u])] W2) := K1.out.below hb
 clear c1_0_0 c1_0_1 c1_0_2 c1_0_3
 clear hb K1
 have c2_0_0 : W2.cell? ⟨w.heap.size, 0, none⟩ = some (vi ki 0) := (K2.out.at (w.heap.size) [vi ki 0, vi ki m, vi ki d, vi ki u] (by simp)).c 0 rfl
 have z2_0_0 : W2.frozen? ⟨w.heap.size, 0, none⟩ = false := (K2.out.at (w.heap.size) [vi ki 0, vi ki m, vi ki d, vi ki u] (by simp)).f 0 rfl
 have c2_0_1 : W2.cell? ⟨w.heap.size, 1, none⟩ = some (vi ki m) := (K2.out.at (w.heap.size) [vi ki 0, vi ki m, vi ki d, vi ki u] (by simp)).c 1 rfl
 have z2_0_1 : W2.frozen? ⟨w.heap.size, 1, none⟩ = false := (K2.out.at (w.heap.size) [vi ki 0, vi ki m, vi ki d, vi ki u] (by simp)).f 1 rfl
 have c2_0_2 : W2.cell? ⟨w.heap.size, 2, none⟩ = some (vi ki d) := (K2.out.at (w.heap.size) [vi ki 0, vi ki m, vi ki d, vi ki u] (by simp)).c 2 rfl
 have z2_0_2 : W2.frozen? ⟨w.heap.size, 2, none⟩ = false := (K2.out.at (w.heap.size) [vi ki 0, vi ki m, vi ki d, vi ki u] (by simp)).f 2 rfl
 have c2_0_3 : W2.cell? ⟨w.heap.size, 3, none⟩ = some (vi ki u) := (K2.out.at (w.heap.size) [vi ki 0, vi ki m, vi ki d, vi ki u] (by simp)).c 3 rfl
 have z2_0_3 : W2.frozen? ⟨w.heap.size, 3, none⟩ = false := (K2.out.at (w.heap.size) [vi ki 0, vi ki m, vi ki d, vi ki u] (by simp)).f 3 rfl
 have Mz2 : Hid (BS w [(w.heap.size, [vi ki 0, vi ki 0, vi ki D, vi ki U])] (W2.setCells (w.heap.size) 0 [vi ki 0, vi ki 0, vi ki D, vi ki U])) := K2.out.set [vi ki 0, vi ki 0, vi ki D, vi ki U] rfl (fun x hx => by cases hx)
 go_upto_region 4 with fail
 refine gen_to (BS w [(w.heap.size, [vi ki 0, vi ki 0, vi ki D, vi ki U])]) Mz2.out ?_
 clear c2_0_0 z2_0_0 c2_0_1 z2_0_1 c2_0_2 z2_0_2 c2_0_3 z2_0_3
 intro W3 K3'
 have K3 : Hid (BS w [(w.heap.size, [vi ki 0, vi ki 0, vi ki D, vi ki U])] W3) := K3'
 clear K3' Mz2 K2
 have c3_0_0 : W3.cell? ⟨w.heap.size, 0, none⟩ = some (vi ki 0) := (K3.out.at (w.heap.size) [vi ki 0, vi ki 0, vi ki D, vi ki U] (by simp)).c 0 rfl
 have c3_0_1 : W3.cell? ⟨w.heap.size, 1, none⟩ = some (vi ki 0) := (K3.out.at (w.heap.size) [vi ki 0, vi ki 0, vi ki D, vi ki U] (by simp)).c 1 rfl
 have c3_0_2 : W3.cell? ⟨w.heap.size, 2, none⟩ = some (vi ki D) := (K3.out.at (w.heap.size) [vi ki 0, vi ki 0, vi ki D, vi ki U] (by simp)).c 2 rfl
 have c3_0_3 : W3.cell? ⟨w.heap.size, 3, none⟩ = some (vi ki U) := (K3.out.at (w.heap.size) [vi ki 0, vi ki 0, vi ki D, vi ki U] (by simp)).c 3 rfl
 go_wp2
 go_ret
 exact ⟨rfl, K3.out.1⟩
theorem psign_u (m d u U : Int) (h : U ≠ 0)
  (R : Hid (∀ w : World, Calls Tryz.prog 18 #[.agg #[vi ki 0, vi ki m, vi ki d, vi ki u]] w fun r' w' => r' = zr (.bool true) ∧ Below w.heap.size w w'))
  (L : Hid (∀ w : World, Calls Tryz.prog 61 #[.agg #[vi ki 0, vi ki m, vi ki d, vi ki u]] w fun r' w' => r' = zr (.agg #[vi ki 0, vi ki 0, vi ki 0, vi ki U]) ∧ Below w.heap.size w w'))
  (w : World) :
  Calls Tryz.prog 37 #[.agg #[vi ki 0, vi ki m, vi ki d, vi ki u]] w fun r' w' => r' = zr (vi ki 1) ∧ Below w.heap.size w w' := by
 have h1 : (U == 0) = false := by simpa using h
 have K0 := bsn1 w [vi ki 0, vi ki m, vi ki d, vi ki u] 38
 go_enter Tryz.func37, Tryz.ntmps37
 go_wp2_with fail
 refine (R.out _).mono ?_
 rintro e W1 ⟨rfl, hb⟩
 have K1 : Hid (BS w [(w.heap.size, [vi ki 0, vi ki m, vi ki d, vi ki u])] W1) := K0.out.below hb
 clear hb K0
 have c1_0_0 : W1.cell? ⟨w.heap.size, 0, none⟩ = some (vi ki 0) := (K1.out.at (w.heap.size) [vi ki 0, vi ki m, vi ki d, vi ki u] (by simp)).c 0 rfl
 have c1_0_1 : W1.cell? ⟨w.heap.size, 1, none⟩ = some (vi ki m) := (K1.out.at (w.heap.size) [vi ki 0, vi ki m, vi ki d, vi ki u] (by simp)).c 1 rfl
 have c1_0_2 : W1.cell? ⟨w.heap.size, 2, none⟩ = some (vi ki d) := (K1.out.at (w.heap.size) [vi ki 0, vi ki m, vi ki d, vi ki u] (by simp)).c 2 rfl
 have c1_0_3 : W1.cell? ⟨w.heap.size, 3, none⟩ = some (vi ki u) := (K1.out.at (w.heap.size) [vi ki 0, vi ki m, vi ki d, vi ki u] (by simp)).c 3 rfl
 go_wp2_with fail
 refine (L.out _).mono ?_
 rintro e W2 ⟨rfl, hb⟩
 have K2 : Hid (BS w [(w.heap.size, [vi ki 0, vi ki m, vi ki d, vi ki u])] W2) := K1.out.below hb
 clear c1_0_0 c1_0_1 c1_0_2 c1_0_3
 clear hb K1
 have c2_0_0 : W2.cell? ⟨w.heap.size, 0, none⟩ = some (vi ki 0) := (K2.out.at (w.heap.size) [vi ki 0, vi ki m, vi ki d, vi ki u] (by simp)).c 0 rfl
 have z2_0_0 : W2.frozen? ⟨w.heap.size, 0, none⟩ = false := (K2.out.at (w.heap.size) [vi ki 0, vi ki m, vi ki d, vi ki u] (by simp)).f 0 rfl
 have c2_0_1 : W2.cell? ⟨w.heap.size, 1, none⟩ = some (vi ki m) := (K2.out.at (w.heap.size) [vi ki 0, vi ki m, vi ki d, vi ki u] (by simp)).c 1 rfl
 have z2_0_1 : W2.frozen? ⟨w.heap.size, 1, none⟩ = false := (K2.out.at (w.heap.size) [vi ki 0, vi ki m, vi ki d, vi ki u] (by simp)).f 1 rfl
 have c2_0_2 : W2.cell? ⟨w.heap.size, 2, none⟩ = some (vi ki d) := (K2.out.at (w.heap.size) [vi ki 0, vi ki m, vi ki d, vi ki u] (by simp)).c 2 rfl
 have z2_0_2 : W2.frozen? ⟨w.heap.size, 2, none⟩ = false := (K2.out.at (w.heap.size) [vi ki 0, vi ki m, vi ki d, vi ki u] (by simp)).f 2 rfl
 have c2_0_3 : W2.cell? ⟨w.heap.size, 3, none⟩ = some (vi ki u) := (K2.out.at (w.heap.size) [vi ki 0, vi ki m, vi ki d, vi ki u] (by simp)).c 3 rfl
 have z2_0_3 : W2.frozen? ⟨w.heap.size, 3, none⟩ = false := (K2.out.at (w.heap.size) [vi ki 0, vi ki m, vi ki d, vi ki u] (by simp)).f 3 rfl
 have Mz2 : Hid (BS w [(w.heap.size, [vi ki 0, vi ki 0, vi ki 0, vi ki U])] (W2.setCells (w.heap.size) 0 [vi ki 0, vi ki 0, vi ki 0, vi ki U])) := K2.out.set [vi ki 0, vi ki 0, vi ki 0, vi ki U] rfl (fun x hx => by cases hx)
 go_upto_region 4 with fail
 refine gen_to (BS w [(w.heap.size, [vi ki 0, vi ki 0, vi ki 0, vi ki U])]) Mz2.out ?_
 clear c2_0_0 z2_0_0 c2_0_1 z2_0_1 c2_0_2 z2_0_2 c2_0_3 z2_0_3
 intro W3 K3'
 have K3 : Hid (BS w [(w.heap.size, [vi ki 0, vi ki 0, vi ki 0, vi ki U])] W3) := K3'
 clear K3' Mz2 K2
 have c3_0_0 : W3.cell? ⟨w.heap.size, 0, none⟩ = some (vi ki 0) := (K3.out.at (w.heap.size) [vi ki 0, vi ki 0, vi ki 0, vi ki U] (by simp)).c 0 rfl
 have c3_0_1 : W3.cell? ⟨w.heap.size, 1, none⟩ = some (vi ki 0) := (K3.out.at (w.heap.size) [vi ki 0, vi ki 0, vi ki 0, vi ki U] (by simp)).c 1 rfl
 have c3_0_2 : W3.cell? ⟨w.heap.size, 2, none⟩ = some (vi ki 0) := (K3.out.at (w.heap.size) [vi ki 0, vi ki 0, vi ki 0, vi ki U] (by simp)).c 2 rfl
 have c3_0_3 : W3.cell? ⟨w.heap.size, 3, none⟩ = some (vi ki U) := (K3.out.at (w.heap.size) [vi ki 0, vi ki 0, vi ki 0, vi ki U] (by simp)).c 3 rfl
 go_wp2
 go_ret
 exact ⟨rfl, K3.out.1⟩
def sgA (i m d u : Int) : Int := if pR i m d u = true then (if i = 0 then (if lvD m d u = 0 ∧ lvU u = 0 then 0 else if lvD m d u < 0 then -1 else 1) else i) else 0
theorem psign_any (i m d u : Int) (u1 : -9223372036854775808 ≤ u) (u2 : u ≤ 9223372036854775807) (w : World) :
  Calls Tryz.prog 37 #[.agg #[vi ki i, vi ki m, vi ki d, vi ki u]] w fun r w' => r = zr (vi ki (sgA i m d u)) ∧ Below w.heap.size w w' := by
 unfold sgA
 cases h : pR i m d u
 ·rw [if_neg (by decide)]; exact psign_no i m d u (fun w => by rw [← h]; exact pr_any i m d u u1 u2 w) w
 ·rw [if_pos rfl]
  have R : ∀ w : World, Calls Tryz.prog 18 #[.agg #[vi ki i, vi ki m, vi ki d, vi ki u]] w fun r' w' => r' = zr (.bool true) ∧ Below w.heap.size w w' := fun w => by rw [← h]; exact pr_any i m d u u1 u2 w
  have q := pR_yes h
  have L := fun w => level_any i m d u (by omega) (by omega) (by omega) (by omega) u1 u2 w
  by_cases h0 : i = 0
  ·subst h0
   rw [if_pos rfl]
   by_cases k : lvD m d u = 0 ∧ lvU u = 0
   ·rw [if_pos k]; rw [k.1, k.2] at L; exact psign_z m d u R L w
   ·rw [if_neg k]
    by_cases l : lvD m d u < 0
    ·rw [if_pos l]; exact psign_lt m d u _ _ l R L w
    ·rw [if_neg l]
     by_cases z : lvD m d u = 0
     ·rw [z] at L; exact psign_u m d u _ (fun e => k ⟨z, e⟩) R L w
     ·exact psign_gt m d u _ _ (by omega) R L w
  ·rw [if_neg h0]
   rcases q with q | ⟨q, rfl, rfl, rfl⟩
   ·exact absurd q.1 h0
   ·rw [show lvD 0 0 0 = 0 by decide, show lvU 0 = 0 by decide] at L
    rcases q with rfl | rfl
    ·exact psign_m 0 0 0 R L w
    ·exact psign_p 0 0 0 R L w
def cmA (i m d u j n e v : Int) : Int := if pR i m d u = true ∧ pR j n e v = true then orV (sgnC i j) (sgnC (lvD m d u) (lvD n e v)) (sgnC (lvU u) (lvU v)) else 0
end Go.Proofs.YtpdmndlpgjjopaaGreatDoor.Sp
namespace Go.Proofs.YtpdmndlpgjjopaaGreatDoor
open Go.RowKit
def beyS (bi bu d x : Int) : Bool := Dy.spV 0 x bi bu == d
def leadS (d q x : Int) : Bool := Dy.spV 0 x 0 q == d
theorem nextE : ∀ args w, (callFunc 31 args).run Tryz.prog w = .ok (.enter 31 args) w := enters_of Tryz.func31 (by kernel_rfl) rfl
theorem stamps_fol (u bi bu M D U d : Int) (m : Nat) (N : Int → Int × Int) (VL : Int → Prop) (hm : m ≤ 1000) (hVL : ∀ x, VL x → Dy.dok (x / 86400000000) = true) (hu : VL u) (hb : Dy.sR bi bu = true) (b1 : -9223372036854775808 ≤ bu) (b2 : bu ≤ 9223372036854775807) (hp : Sp.pR 0 M D U = true) (hd : Sp.sgA 0 M D U = d) (hd0 : d ≠ 0)
  (hN : ∀ x, VL x → beyS bi bu d x = false → AddIs 0 x 0 M D U 0 (N x).1 (N x).2) (hV : ∀ x, VL x → beyS bi bu d x = false → (N x).2 = 0 → VL (N x).1) (w : World) (hL : Cvl.Lens w) :
  Calls Tryz.prog 12 #[.agg #[vi ki 0, vi ki u], .agg #[vi ki bi, vi ki bu], .agg #[vi ki 0, vi ki M, vi ki D, vi ki U], vi ki (m : Int)] w fun r' w' => ∃ v, r' = zr (.tuple #[v, vi ki (folF N (beyS bi bu d) (leadS d) m u none []).2]) ∧ Below w.heap.size w w' ∧ w'.ownsRow w.heap.size 36 2 v (folF N (beyS bi bu d) (leadS d) m u none []).1.length (cT (folF N (beyS bi bu d) (leadS d) m u none []).1) := by
 have bp := pR_bd hp
 have BD : ∀ x, VL x → -9223372036854775808 ≤ x ∧ x ≤ 9223372036854775807 := fun x h => dok_bd (hVL x h)
 have SR : ∀ x, VL x → Dy.sR 0 x = true := fun x h => hVL x h
 have mo : mostB (m : Int) = true := by unfold mostB; rw [decide_eq_true (by omega), decide_eq_true (by omega)]; rfl
 have CP : ∀ (x : Int), VL x → ∀ w : World, Cvl.Lens w → _ := fun x hx w hw => Dy.scmp_any 0 x bi bu (BD x hx).1 (BD x hx).2 b1 b2 w hw
 have CQ : ∀ (q x : Int), VL q → VL x → ∀ w : World, Cvl.Lens w → _ := fun q x hq hx w hw => Dy.scmp_any 0 x 0 q (BD x hx).1 (BD x hx).2 (BD q hq).1 (BD q hq).2 w hw
 refine sts_run 0 u bi bu 0 M D U (m : Int) _ _ _ (fun w => by rw [← mo]; exact most_any _ w) (fun w hw => by rw [← SR u hu]; exact Dy.rst_any 0 u (BD u hu).1 (BD u hu).2 w hw) (fun w hw => by rw [← hb]; exact Dy.rst_any bi bu b1 b2 w hw) (fun w => by rw [← hp]; exact Sp.pr_any 0 M D U (by omega) (by omega) w) (fun w hw => ?_) w (Dy.lens_of hL)
 refine fol_run Cvl.Lens (fun W V hW hB => Lens_below hW hB (Lens_lt hW)) _ _ nextE N (beyS bi bu d) (leadS d) VL u bi bu M D U d m hm hd0 hu _ _ rfl (fun x hx hbx w hw => ?_) hV (fun x hx w hw => ?_) (fun q x hq hx w hw => ?_) (fun w => by rw [← hd]; exact Sp.psign_any 0 M D U (by omega) (by omega) w) w hw
 ·exact next_any 0 x 0 M D U 0 (N x).1 (N x).2 (fun w hw => sadd_any 0 x 0 M D U 0 _ _ (hN x hx hbx) (BD x hx).1 (BD x hx).2 (by omega) (by omega) w hw) w (Dy.lens_of hw)
 ·exact bey_any 0 x bi bu d _ (CP x hx) w (Dy.lens_of hw)
 ·exact lead_any 0 q bi bu d 0 x bi bu d _ (CQ q x hq hx) w (Dy.lens_of hw)
theorem at21 (y m d n U : Int) (h1 : Dy.mkV y m d = n) (h2 : Dy.stI 0 n 0 = 0) (h3 : Dy.stV 0 n 0 = U) (w : World) : Calls Tryz.prog 22 #[vi ki y, vi ki m, vi ki d] w fun r w' => r = zr (.agg #[vi ki 0, vi ki U]) ∧ Below w.heap.size w w' := by
 have MK := fun w => Dy.rmake_any y m d w
 have SA := fun w => Dy.rstart_any 0 n w
 rw [h1] at MK
 rw [h2, h3] at SA
 exact at_any y m d 0 n _ 0 U _ MK SA w
def kN (x : Int) : Int × Int := if x = 759974400000000 then (762480000000000, 0) else if x = 762480000000000 then (764985600000000, 0) else if x = 764985600000000 then (767664000000000, 0) else (770256000000000, 0)
def kV (x : Int) : Prop := x = 759974400000000 ∨ x = 762480000000000 ∨ x = 764985600000000 ∨ x = 767664000000000 ∨ x = 770256000000000
def kL : List Int := [759974400000000, 762480000000000, 764985600000000, 767664000000000]
theorem stamps_known (w : World) (hL : Cvl.Lens w) : Calls Tryz.prog 12 #[.agg #[vi ki 0, vi ki 759974400000000], .agg #[vi ki 0, vi ki 767836800000000], .agg #[vi ki 0, vi ki 1, vi ki 0, vi ki 0], vi ki 9] w fun r' w' => ∃ v, r' = zr (.tuple #[v, vi ki 0]) ∧ Below w.heap.size w w' ∧ w'.ownsRow w.heap.size 36 2 v kL.length (cT kL) := by
 have e : folF kN (beyS 0 767836800000000 1) (leadS 1) 9 759974400000000 none [] = (kL, 0) := by decide +kernel
 have h := stamps_fol 759974400000000 0 767836800000000 1 0 0 1 9 kN kV (by decide) (fun x hx => by rcases hx with rfl | rfl | rfl | rfl | rfl <;> decide) (.inl rfl) (by decide) (by decide) (by decide) (by decide) (by decide +kernel) (by decide) ?_ ?_ w hL
 ·rw [e] at h
  exact h
 ·intro x hx hb
  rcases hx with rfl | rfl | rfl | rfl | rfl
  ·exact .inr (.inr ⟨rfl, rfl, by decide, by decide, 2024, 1, 31, ⟨by decide, by decide, by decide, by decide, by decide +kernel⟩, rfl, by decide +kernel, by decide +kernel⟩)
  ·exact .inr (.inr ⟨rfl, rfl, by decide, by decide, 2024, 2, 29, ⟨by decide, by decide, by decide, by decide, by decide +kernel⟩, rfl, by decide +kernel, by decide +kernel⟩)
  ·exact .inr (.inr ⟨rfl, rfl, by decide, by decide, 2024, 3, 29, ⟨by decide, by decide, by decide, by decide, by decide +kernel⟩, rfl, by decide +kernel, by decide +kernel⟩)
  ·exact .inr (.inr ⟨rfl, rfl, by decide, by decide, 2024, 4, 29, ⟨by decide, by decide, by decide, by decide, by decide +kernel⟩, rfl, by decide +kernel, by decide +kernel⟩)
  ·exact absurd hb (by decide +kernel)
 ·intro x hx hb _
  rcases hx with rfl | rfl | rfl | rfl | rfl
  ·exact .inr (.inl rfl)
  ·exact .inr (.inr (.inl rfl))
  ·exact .inr (.inr (.inr (.inl rfl)))
  ·exact .inr (.inr (.inr (.inr rfl)))
  ·exact absurd hb (by decide +kernel)
theorem ints_known (w : World) : Calls Tryz.prog 21 #[vi ki 1, vi ki 10, vi ki 4, vi ki 9] w fun r w' => ∃ g, r = zr (.tuple #[.slice (some ⟨g, 0, none⟩) 3 3, vi ki 0]) ∧ Below w.heap.size w w' ∧ IRow w' (.slice (some ⟨g, 0, none⟩) 3 3) [1, 5, 9] := by
 have C := fun w => Count_any 1 10 4 (by decide) (by decide) (by decide) (by decide) (by decide) (by decide) w
 rw [show ctV 1 10 4 = ((3 : Nat) : Int) by decide +kernel, show ctE 1 10 4 = 0 by decide +kernel] at C
 refine (ints_ok 1 10 4 9 3 (by decide) (by decide) (by decide) (by decide +kernel) (fun i hi => ?_) (by decide +kernel) C w).mono ?_
 ·rw [IntKind.wrap_i64]; omega
 ·rintro e W ⟨g, rfl, hb, _, hx⟩
  exact ⟨g, rfl, hb, IRow.of_bx hx rfl⟩
theorem known21_any (w : World) (hL : Cvl.Lens w) : Calls Tryz.prog 7 #[] w fun r w' => r = zr (.bool true) ∧ Below w.heap.size w w' := by
 have hLL : Hid (∀ W : World, Below w.heap.size w W → Cvl.Lens W) := Dy.lens_of hL
 have A1 : Hid (∀ w : World, Calls Tryz.prog 22 #[vi ki 2024, vi ki 1, vi ki 31] w fun r w' => r = zr (.agg #[vi ki 0, vi ki 759974400000000]) ∧ Below w.heap.size w w') := fun w => at21 2024 1 31 8796 _ (by decide +kernel) (by decide +kernel) (by decide +kernel) w
 have A2 : Hid (∀ w : World, Calls Tryz.prog 22 #[vi ki 2024, vi ki 5, vi ki 1] w fun r w' => r = zr (.agg #[vi ki 0, vi ki 767836800000000]) ∧ Below w.heap.size w w') := fun w => at21 2024 5 1 8887 _ (by decide +kernel) (by decide +kernel) (by decide +kernel) w
 have A3 : Hid (∀ w : World, Calls Tryz.prog 22 #[vi ki 2024, vi ki 2, vi ki 29] w fun r w' => r = zr (.agg #[vi ki 0, vi ki 762480000000000]) ∧ Below w.heap.size w w') := fun w => at21 2024 2 29 8825 _ (by decide +kernel) (by decide +kernel) (by decide +kernel) w
 have A4 : Hid (∀ w : World, Calls Tryz.prog 22 #[vi ki 2024, vi ki 3, vi ki 29] w fun r w' => r = zr (.agg #[vi ki 0, vi ki 764985600000000]) ∧ Below w.heap.size w w') := fun w => at21 2024 3 29 8854 _ (by decide +kernel) (by decide +kernel) (by decide +kernel) w
 have A5 : Hid (∀ w : World, Calls Tryz.prog 22 #[vi ki 2024, vi ki 4, vi ki 29] w fun r w' => r = zr (.agg #[vi ki 0, vi ki 767664000000000]) ∧ Below w.heap.size w w') := fun w => at21 2024 4 29 8885 _ (by decide +kernel) (by decide +kernel) (by decide +kernel) w
 go_enter Tryz.func7, Tryz.ntmps7
 go_wp2_with fail
 refine (ints_known _).mono ?_
 rintro e W1 ⟨g, rfl, hb, hr⟩
 have HB1 : Hid (Below w.heap.size w W1) := hb
 have HR1 : Hid (IRow W1 (.slice (some ⟨g, 0, none⟩) 3 3) [1, 5, 9]) := hr
 clear hb hr
 go_wp2_with fail
 refine (A1.out _).mono ?_
 rintro e W2 ⟨rfl, hb⟩
 have HB2 : Hid (Below w.heap.size w W2) := HB1.out.trans (hb.mono HB1.out.size)
 have HR2 : Hid (IRow W2 (.slice (some ⟨g, 0, none⟩) 3 3) [1, 5, 9]) := HR1.out.below hb
 clear hb HB1 HR1
 go_wp2_with fail
 refine (A2.out _).mono ?_
 rintro e W3 ⟨rfl, hb⟩
 have HB3 : Hid (Below w.heap.size w W3) := HB2.out.trans (hb.mono HB2.out.size)
 have HR3 : Hid (IRow W3 (.slice (some ⟨g, 0, none⟩) 3 3) [1, 5, 9]) := HR2.out.below hb
 clear hb HB2 HR2
 go_wp2_with fail
 refine (stamps_known _ (hLL.out _ HB3.out)).mono ?_
 rintro e W4 ⟨v, rfl, hb, ho⟩
 have HB4 : Hid (Below w.heap.size w W4) := HB3.out.trans (hb.mono HB3.out.size)
 have HR4 : Hid (IRow W4 (.slice (some ⟨g, 0, none⟩) 3 3) [1, 5, 9]) := HR3.out.below hb
 have HT4 : Hid (TRow W4 v kL) := TRow.of_own ho
 clear hb HB3 HR3 ho
 go_wp2_with fail
 refine (A1.out _).mono ?_
 rintro e W5 ⟨rfl, hb⟩
 have HB5 : Hid (Below w.heap.size w W5) := HB4.out.trans (hb.mono HB4.out.size)
 have HR5 : Hid (IRow W5 (.slice (some ⟨g, 0, none⟩) 3 3) [1, 5, 9]) := HR4.out.below hb
 have HT5 : Hid (TRow W5 v kL) := HT4.out.below hb
 clear hb HB4 HR4 HT4
 go_wp2_with fail
 refine (A3.out _).mono ?_
 rintro e W6 ⟨rfl, hb⟩
 have HB6 : Hid (Below w.heap.size w W6) := HB5.out.trans (hb.mono HB5.out.size)
 have HR6 : Hid (IRow W6 (.slice (some ⟨g, 0, none⟩) 3 3) [1, 5, 9]) := HR5.out.below hb
 have HT6 : Hid (TRow W6 v kL) := HT5.out.below hb
 clear hb HB5 HR5 HT5
 go_wp2_with fail
 refine (A4.out _).mono ?_
 rintro e W7 ⟨rfl, hb⟩
 have HB7 : Hid (Below w.heap.size w W7) := HB6.out.trans (hb.mono HB6.out.size)
 have HR7 : Hid (IRow W7 (.slice (some ⟨g, 0, none⟩) 3 3) [1, 5, 9]) := HR6.out.below hb
 have HT7 : Hid (TRow W7 v kL) := HT6.out.below hb
 clear hb HB6 HR6 HT6
 go_wp2_with fail
 refine (A5.out _).mono ?_
 rintro e W8 ⟨rfl, hb⟩
 have HB8 : Hid (Below w.heap.size w W8) := HB7.out.trans (hb.mono HB7.out.size)
 have HR8 : Hid (IRow W8 (.slice (some ⟨g, 0, none⟩) 3 3) [1, 5, 9]) := HR7.out.below hb
 have HT8 : Hid (TRow W8 v kL) := HT7.out.below hb
 clear hb HB7 HR7 HT7
 have al : ∀ (V : World) (o : Obj), Below V.heap.size V (V.alloc o) := fun V o => (Below.refl _ V).alloc (Nat.le_refl _) o
 go_upto_region 4 with fail
 refine gen_to (fun V => Hid (Below w.heap.size w V) ∧ Hid (IRow V (.slice (some ⟨g, 0, none⟩) 3 3) [1, 5, 9]) ∧ Hid (TRow V v kL) ∧ Hid (TRow V (.slice (some ⟨W8.heap.size, 0, none⟩) 4 4) kL)) ⟨HB8.out.alloc HB8.out.size _, HR8.out.below (al _ _), HT8.out.below (al _ _), TRow.of_bx (Bx.new W8 (cT kL) 36) rfl⟩ ?_
 clear HB8 HR8 HT8
 generalize W8.heap.size = G8
 rintro V ⟨HB, HR, HT, HS⟩
 have HR9 : Hid (IRow (V.alloc (.cells #[vi ki 1, vi ki 5, vi ki 9] 2)) (.slice (some ⟨g, 0, none⟩) 3 3) [1, 5, 9]) := HR.out.below (al _ _)
 have HL9 : Hid (IRow (V.alloc (.cells #[vi ki 1, vi ki 5, vi ki 9] 2)) (.slice (some ⟨V.heap.size, 0, none⟩) 3 3) [1, 5, 9]) := IRow.of_bx (L := [1, 5, 9]) (Bx.new V (cI [1, 5, 9]) 2) rfl
 go_wp2_with fail
 refine (same_yes _ _ [1, 5, 9] (by decide) _ HR9 HL9).mono ?_
 rintro e U1 ⟨rfl, hb⟩
 have HBU : Hid (Below w.heap.size w U1) := (HB.out.alloc HB.out.size _).trans (hb.mono (HB.out.alloc HB.out.size _).size)
 have HT9 : Hid (TRow U1 v kL) := (HT.out.below (al _ _)).below hb
 have HS9 : Hid (TRow U1 (.slice (some ⟨G8, 0, none⟩) 4 4) kL) := (HS.out.below (al _ _)).below hb
 clear hb HB HR HT HS HR9 HL9 al
 go_wp2_with fail
 refine (Same_yes _ _ kL (by decide) _ HT9 HS9).mono ?_
 rintro e U2 ⟨rfl, hb⟩
 have HB9 : Hid (Below w.heap.size w U2) := HBU.out.trans (hb.mono HBU.out.size)
 clear hb HBU HT9 HS9
 go_wp2_with fail
 go_ret
 exact ⟨rfl, HB9.out⟩
open Go.RowKit Sr
def curT (f : TrR) (L : List TrR) (i : Nat) : TrR := if i = 0 then f else L.getD (i - 1) f
theorem curT_succ {f x : TrR} {L : List TrR} {i : Nat} (h : L[i]? = some x) : curT f L (i + 1) = x := by
 unfold curT
 rw [if_neg (by omega), Nat.add_sub_cancel, List.getD_eq_getElem?_getD, h]; rfl
theorem rises_of : ∀ (L : List TrR), (∀ j p x, L[j]? = some p → L[j + 1]? = some x → p.at_ < x.at_) → Zm.Rises (L.map (·.at_))
 | [], _ => trivial
 | [_], _ => trivial
 | a :: b :: l, h => ⟨h 0 a b rfl rfl, rises_of (b :: l) (fun j p x hp hx => h (j + 1) p x hp hx)⟩
def atP (b : Bool) (y : Int) (has : Bool) (fr t : Int) (f : TrR) (L : List TrR) (px : TrR) : TrR := if b = true then (if askY y = true then (if has = true ∧ fr ≤ t then px else curT f L (Zm.cntLe t (L.map (·.at_)))) else zTr) else zTr
def atE (b : Bool) (y : Int) : Int := if b = true then (if askY y = true then 0 else 10) else 1
abbrev trV (x : TrR) : Value := .agg #[vi ki x.at_, vi ki x.off, .bool x.dst, .string x.ab]
theorem cnt_get {t : Int} {L : List TrR} {k : Nat} (h : Zm.cntLe t (L.map (·.at_)) = k + 1) : ∃ x, L[k]? = some x := by
 have := Zm.cntLe_le t (L.map (·.at_))
 rw [List.length_map, h] at this
 exact ⟨_, List.getElem?_eq_getElem (by omega)⟩
theorem stand_any (nm : ByteArray) (f : TrR) (sv : Value) (FL : List Value) (hF : FL.length = 19) (has : Bool) (fr t : Int) (f0 : FL[0]? = some (.bool has)) (f1 : FL[1]? = some (vi ki fr)) (L : List TrR) (hr : Zm.Rises (L.map (·.at_))) (h4 : L.length ≤ 4096) (px : TrR) (er : Int) (w : World) (HT : TrAt w sv L)
  (FA : has = true → fr ≤ t → ∀ W : World, Below w.heap.size w W → Calls Tryz.prog 57 #[.agg FL.toArray, vi ki t] W fun r w' => r = zr (.tuple #[trV px, vi ki er]) ∧ Below W.heap.size W w') :
  Calls Tryz.prog 97 #[.agg (tbF nm f sv FL).toArray, vi ki t] w fun r w' => r = zr (trV (if has = true ∧ fr ≤ t then px else curT f L (Zm.cntLe t (L.map (·.at_))))) ∧ Below w.heap.size w w' := by
 have BH : ∀ W : World, Below w.heap.size w W → Calls Tryz.prog 113 #[.agg (tbF nm f sv FL).toArray, vi ki t] W fun r w' => r = zr (vi ki (Zm.cntLe t (L.map (·.at_)) : Int)) ∧ Below W.heap.size W w' := fun W hb => behind_any _ (tbF_len hF) L sv rfl t hr h4 W (HT.mv hb)
 cases hc : Zm.cntLe t (L.map (·.at_)) with
 | zero =>
  rw [hc] at BH
  cases has with
  | false => rw [if_neg (fun q => absurd q.1 (by decide))]; exact stand_first_n nm f sv FL hF fr t f0 f1 w BH
  | true =>
   by_cases hy : fr ≤ t
   ·rw [if_pos ⟨rfl, hy⟩]; exact stand_foot nm f sv FL hF fr t f0 f1 hy px er w (FA rfl hy)
   ·rw [if_neg (fun q => hy q.2)]; exact stand_first_e nm f sv FL hF fr t f0 f1 hy w BH
 | succ k =>
  rw [hc] at BH
  obtain ⟨x, hx⟩ := cnt_get hc
  rw [curT_succ hx]
  cases has with
  | false => rw [if_neg (fun q => absurd q.1 (by decide))]; exact stand_tr_n nm f sv FL hF fr t f0 f1 L h4 k x hx w HT BH
  | true =>
   by_cases hy : fr ≤ t
   ·rw [if_pos ⟨rfl, hy⟩]; exact stand_foot nm f sv FL hF fr t f0 f1 hy px er w (FA rfl hy)
   ·rw [if_neg (fun q => hy q.2)]; exact stand_tr_e nm f sv FL hF fr t f0 f1 hy L h4 k x hx w HT BH
theorem zat_any (nm : ByteArray) (f : TrR) (sv : Value) (FL : List Value) (hF : FL.length = 19) (has : Bool) (fr t : Int) (f0 : FL[0]? = some (.bool has)) (f1 : FL[1]? = some (vi ki fr)) (L : List TrR) (b : Bool) (hr : b = true → Zm.Rises (L.map (·.at_)) ∧ L.length ≤ 4096) (y : Int) (px : TrR) (er : Int) (w : World) (HT : TrAt w sv L)
  (RT : ∀ W : World, Below w.heap.size w W → Calls Tryz.prog 16 #[.agg (tbF nm f sv FL).toArray] W fun r w' => r = zr (.bool b) ∧ Below W.heap.size W w')
  (YA : ∀ W : World, Below w.heap.size w W → Calls Tryz.prog 56 #[vi ki t] W fun r w' => r = zr (vi ki y) ∧ w' = W)
  (FA : b = true → askY y = true → has = true → fr ≤ t → ∀ W : World, Below w.heap.size w W → Calls Tryz.prog 57 #[.agg FL.toArray, vi ki t] W fun r w' => r = zr (.tuple #[trV px, vi ki er]) ∧ Below W.heap.size W w') :
  Calls Tryz.prog 77 #[.agg (tbF nm f sv FL).toArray, vi ki t] w fun r w' => r = zr (.tuple #[trV (atP b y has fr t f L px), vi ki (atE b y)]) ∧ Below w.heap.size w w' := by
 unfold atP atE
 cases b with
 | false => rw [if_neg (by decide), if_neg (by decide)]; exact zat_no _ (tbF_len hF) t w RT
 | true =>
  rw [if_pos rfl, if_pos rfl]
  have AS : ∀ W : World, Below w.heap.size w W → Calls Tryz.prog 96 #[vi ki t] W fun r w' => r = zr (.bool (askY y)) ∧ w' = W := fun W hb => asked_any t y W (YA W hb)
  cases ha : askY y with
  | false => rw [ha] at AS; rw [if_neg (by decide), if_neg (by decide)]; exact zat_range _ (tbF_len hF) t w RT AS
  | true =>
   rw [ha] at AS
   rw [if_pos rfl, if_pos rfl]
   obtain ⟨hr1, hr2⟩ := hr rfl
   exact zat_yes _ (tbF_len hF) t _ w RT AS (fun W hb => stand_any nm f sv FL hF has fr t f0 f1 L hr1 hr2 px er W (HT.mv hb) (fun h1 h2 W' hb' => FA rfl ha h1 h2 W' (hb.trans (hb'.mono hb.size))))
end Go.Proofs.YtpdmndlpgjjopaaGreatDoor
