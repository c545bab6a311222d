/- series: follow over what is next. -/
import Derived.Test.YtpdmndlpgjjopaaGreatDoorSeHq
import Derived.Test.YtpdmndlpgjjopaaGreatDoorSeFq
import Derived.Deep.Heap
import Derived.Deep.Upon
namespace Go.Proofs.YtpdmndlpgjjopaaGreatDoor
open Go.RowKit
set_option linter.unusedVariables false

/-- a block of this type. -/
def Ty (W : World) (b : Nat) (t : TypeId) : Prop := ∃ cur fz, W.heap[b]? = some (.cells cur t fz)
theorem Ty.lt {W : World} {b : Nat} {t : TypeId} (h : Ty W b t) : b < W.heap.size := by
  obtain ⟨c, f, h⟩ := h
  exact (Array.getElem?_eq_some_iff.1 h).1
theorem Ty.below {W V : World} {b : Nat} {t : TypeId} (h : Ty W b t) (hb : Below W.heap.size W V) : Ty V b t := by
  obtain ⟨c, f, h⟩ := h
  exact ⟨c, f, (hb.block b (Array.getElem?_eq_some_iff.1 h).1).trans h⟩
theorem Ty.new (W : World) (cs : Array Value) (t : TypeId) : Ty (W.alloc (.cells cs t)) W.heap.size t := ⟨cs, (0, 0), by show (W.heap.push _)[W.heap.size]? = _; simp⟩
theorem Ty.setCell {W : World} {b : Nat} {t : TypeId} (h : Ty W b t) (a : Addr) (v : Value) : Ty (W.setCell a v) b t := by
  obtain ⟨c, f, h⟩ := h
  by_cases e : a.block = b
  · refine ⟨if a.spot.isSome then c else c.setIfInBounds a.off v, f, ?_⟩
    simp only [World.setCell]
    rw [Array.getElem?_modify, e, if_pos rfl, h]
    rfl
  · refine ⟨c, f, ?_⟩
    simp only [World.setCell]
    rw [Array.getElem?_modify, if_neg e, h]
theorem Ty.setCells {b : Nat} {t : TypeId} (g : Nat) : ∀ (vs : List Value) (W : World) (i : Nat), Ty W b t → Ty (W.setCells g i vs) b t
  | [], _, _, h => h
  | v :: vs, W, i, h => Ty.setCells g vs _ _ (h.setCell _ v)
theorem Ty.grown {W V : World} {b : Nat} {t : TypeId} {r : Option Nat} (h : Ty W b t) (hg : W.grownBy V r) (hn : some b ≠ r) : Ty V b t := by
  obtain ⟨c, f, e⟩ := h
  exact ⟨c, f, (hg.block b (Array.getElem?_eq_some_iff.1 e).1 hn).trans e⟩
theorem own_ne {W : World} {base : Nat} {e t : TypeId} {size : Nat} {v : Value} {n b : Nat} {xs : List Value} (h : W.ownsRow base e size v n xs) (ht : Ty W b t) (he : e ≠ t) : some b ≠ v.ownBlock := by
  rcases h.2 with ⟨rfl, _⟩ | ⟨g, cap, cur, rfl, _, hg, _⟩
  · simp [Value.ownBlock]
  · intro q
    simp [Value.ownBlock] at q
    subst q
    obtain ⟨c, f, hc⟩ := ht
    rw [hg] at hc
    simp at hc
    exact he hc.2.1
theorem own_off {W : World} {base : Nat} {e : TypeId} {size : Nat} {v : Value} {n b : Nat} {xs : List Value} (h : W.ownsRow base e size v n xs) (hb : some b ≠ v.ownBlock) (vs : List Value) (j : Nat) : (W.setCells b j vs).ownsRow base e size v n xs := by
  refine ⟨h.1, ?_⟩
  rcases h.2 with h2 | ⟨g, cap, cur, rfl, h3, h4, h5⟩
  · exact .inl h2
  · refine .inr ⟨g, cap, cur, rfl, h3, ?_, h5⟩
    rw [World.heap_setCells_other W b j vs (Array.getElem?_eq_some_iff.1 h4).1 (fun q => hb (by rw [q]; rfl))]
    exact h4
theorem bs_grownS {w W W' : World} {l : List (Nat × List Value)} {v : Value} (h : BS w l W) (hl : ∀ x ∈ l, some x.1 ≠ v.ownBlock) (hw : ∀ k, v.ownBlock = some k → w.heap.size ≤ k) (hg : W.grownBy W' v.ownBlock) : BS w l W' := by
  refine ⟨⟨hg.os.trans h.1.os, hg.tape.trans h.1.tape, hg.output.trans h.1.output, Nat.le_trans h.1.size hg.size, fun k hk => (hg.block k (Nat.lt_of_lt_of_le hk h.1.size) (fun e => by have := hw k e.symm; omega)).trans (h.1.block k hk)⟩, fun x hx => ⟨(h.2 x hx).1, ?_⟩⟩
  have hx1 := (h.2 x hx).2
  have hk := hg.block x.1 hx1.1 (hl x hx)
  exact ⟨Nat.lt_of_lt_of_le hx1.1 hg.size, fun i u e => ⟨(World.cell?_of_block (w := W) hk).trans (hx1.2 i u e).1, (World.frozen?_of_block (w := W) hk).trans (hx1.2 i u e).2⟩⟩

/-- the series as far as it has come: the one ahead, where it stands, and the row. -/
structure FS (w : World) (base p nb : Nat) (A N : List Value) (v : Value) (i : Nat) (L : List Value) (W : World) : Prop where
  bs : BS w [(p, A), (nb, N)] W
  tp : Ty W p 89
  own : W.ownsRow base 36 2 v i L
  nl : nb < base
  pl : base ≤ p
theorem FS.below {w : World} {base p nb : Nat} {A N : List Value} {v : Value} {i : Nat} {L : List Value} {W V : World} (h : FS w base p nb A N v i L W) (hb : Below W.heap.size W V) : FS w base p nb A N v i L V :=
  ⟨h.bs.below hb, h.tp.below hb, own_keepS h.own hb, h.nl, h.pl⟩
theorem FS.size {w : World} {base p nb : Nat} {A N : List Value} {v : Value} {i : Nat} {L : List Value} {W : World} (h : FS w base p nb A N v i L W) : base ≤ W.heap.size := Nat.le_trans h.pl (Nat.le_of_lt h.tp.lt)
theorem FS.nen {w : World} {base p nb : Nat} {A N : List Value} {v : Value} {i : Nat} {L : List Value} {W : World} (h : FS w base p nb A N v i L W) : some nb ≠ v.ownBlock := fun e => by
  have := (h.own.lt nb e.symm).1
  have := h.nl
  omega
theorem FS.ne {w : World} {base p nb : Nat} {A N : List Value} {v : Value} {i : Nat} {L : List Value} {W : World} (h : FS w base p nb A N v i L W) : nb ≠ p := by
  have := h.nl
  have := h.pl
  omega
theorem FS.grown {w : World} {base p nb : Nat} {A N : List Value} {v v' : Value} {i m : Nat} {L L' : List Value} {W V : World} (h : FS w base p nb A N v i L W) (o : Obj) (hg : (W.alloc o).grownBy V v.ownBlock) (ho : V.ownsRow base 36 2 v' m L') : FS w base p nb A N v' m L' V := by
  have hb : Below W.heap.size W (W.alloc o) := (Below.refl _ W).alloc (Nat.le_refl _) o
  have h1 := h.below hb
  have n1 := own_ne h1.own h1.tp (by decide)
  refine ⟨bs_grownS h1.bs ?_ (fun k hk => ?_) hg, h1.tp.grown hg n1, ho, h.nl, h.pl⟩
  · intro x hx
    simp only [List.mem_cons, List.not_mem_nil, or_false] at hx
    rcases hx with rfl | rfl
    · exact n1
    · exact h1.nen
  · have e1 := (h.own.lt k hk).1
    have e2 := (h.bs.2 (nb, N) (by simp)).1
    have e3 := h.nl
    simp only [] at e2
    omega
theorem FS.setP {w : World} {base p nb : Nat} {A N : List Value} {v : Value} {i : Nat} {L : List Value} {W : World} (h : FS w base p nb A N v i L W) (vs : List Value) (hl : A.length = vs.length) : FS w base p nb vs N v i L (W.setCells p 0 vs) :=
  ⟨h.bs.set vs hl (by intro x hx; simp only [List.mem_cons, List.not_mem_nil, or_false] at hx; subst hx; exact h.ne), Ty.setCells p vs W 0 h.tp, own_off h.own (own_ne h.own h.tp (by decide)) vs 0, h.nl, h.pl⟩
theorem FS.setN {w : World} {base p nb : Nat} {A : List Value} {x y a b c u r : Value} {v : Value} {i : Nat} {L : List Value} {W : World} (h : FS w base p nb A [x, y, a, b, c] v i L W) : FS w base p nb A [u, r, a, b, c] v i L (W.setCells nb 0 [u, r]) := by
  have hs := h.bs.swap
  have e : ∀ z ∈ [(p, A)], z.1 ≠ nb := by intro z hz; simp only [List.mem_cons, List.not_mem_nil, or_false] at hz; subst hz; exact fun q => h.ne q.symm
  have h1 := hs.set1 0 u (by simp) e
  have h2 := h1.set1 1 r (by simp) e
  simp only [List.set_cons_zero, List.set_cons_succ] at h2
  exact ⟨h2.swap, Ty.setCells nb _ W 0 h.tp, own_off h.own h.nen _ 0, h.nl, h.pl⟩
theorem FS.newP {w : World} {base p nb : Nat} {A N : List Value} {v : Value} {i : Nat} {L : List Value} {W : World} (h : FS w base p nb A N v i L W) : FS w base W.heap.size nb A N v i L (W.alloc (.cells A.toArray 89)) := by
  have hb : Below W.heap.size W (W.alloc (.cells A.toArray 89)) := (Below.refl _ W).alloc (Nat.le_refl _) _
  have h1 := h.below hb
  exact ⟨h.bs.tail.new A _ rfl, Ty.new _ _ _, h1.own, h.nl, h.size⟩
theorem own_mono {W : World} {b1 b2 : Nat} {e : TypeId} {size : Nat} {v : Value} {n : Nat} {xs : List Value} (h : W.ownsRow b2 e size v n xs) (hb : b1 ≤ b2) : W.ownsRow b1 e size v n xs := by
  refine ⟨h.1, ?_⟩
  rcases h.2 with h2 | ⟨g, cap, cur, h1, h3, h4⟩
  · exact .inl h2
  · exact .inr ⟨g, cap, cur, h1, Nat.le_trans hb h3, h4⟩
/-- stamps as cells. -/
def cT (L : List Int) : List Value := L.flatMap fun x => [.int .i64 0, .int .i64 x]
theorem cT_app (L M : List Int) : cT (L ++ M) = cT L ++ cT M := by simp [cT]
theorem cT_one (L : List Int) : ∀ u ∈ cT L, u.oneCell' = true := fun u hu => by
  simp only [cT, List.mem_flatMap, List.mem_cons, List.not_mem_nil, or_false] at hu
  obtain ⟨x, _, rfl | rfl⟩ := hu <;> rfl
theorem infoSt : (Tryz.prog.info? 36).map (fun i => (i.zero, i.size, i.bytes)) = some (some (.agg #[.int .i64 0, .int .i64 0]), 2, 16) := by kernel_rfl
/-- the one ahead, in its block. -/
def ahC (bi bu d : Int) : Option Int → List Value
  | none => [.int .i64 0, .int .i64 0, .int .i64 0, .int .i64 0, .int .i64 0]
  | some q => [.int .i64 0, .int .i64 q, .int .i64 bi, .int .i64 bu, .int .i64 d]
/-- does it lead on from the one ahead? -/
def okA (ld : Int → Int → Bool) : Option Int → Int → Bool
  | none, _ => true
  | some q, x => ld q x
/-- what comes of a series: N is what is next, with its error. -/
def folF (N : Int → Int × Int) (bey : Int → Bool) (ld : Int → Int → Bool) : Nat → Int → Option Int → List Int → List Int × Int
  | 0, x, _, l => if bey x = true then (l, 0) else ([], 14)
  | k + 1, x, ah, l => if bey x = true then (l, 0) else if okA ld ah x = false then ([], 11) else if (N x).2 ≠ 0 then ([], (N x).2) else folF N bey ld k (N x).1 (some x) (l ++ [x])
theorem fol_bey {N : Int → Int × Int} {bey : Int → Bool} {ld : Int → Int → Bool} {k : Nat} {x : Int} {ah : Option Int} {l : List Int} (h : bey x = true) : folF N bey ld k x ah l = (l, 0) := by
  cases k <;> (unfold folF; rw [if_pos h])
theorem fol_0 {N : Int → Int × Int} {bey : Int → Bool} {ld : Int → Int → Bool} {x : Int} {ah : Option Int} {l : List Int} (h : bey x = false) : folF N bey ld 0 x ah l = ([], 14) := by
  unfold folF; rw [if_neg (by rw [h]; decide)]
theorem fol_s {N : Int → Int × Int} {bey : Int → Bool} {ld : Int → Int → Bool} {k : Nat} {x : Int} {ah : Option Int} {l : List Int} (h : bey x = false) : folF N bey ld (k + 1) x ah l = if okA ld ah x = false then ([], 11) else if (N x).2 ≠ 0 then ([], (N x).2) else folF N bey ld k (N x).1 (some x) (l ++ [x]) := by
  conv => lhs; unfold folF
  rw [if_neg (by rw [h]; decide)]
set_option maxRecDepth 100000 in
set_option maxHeartbeats 4000000 in
theorem course_eq (i u j v d : Int) (w : World) : (Op.equalIn 10000 89 (.agg #[.int .i64 i, .int .i64 u, .int .i64 j, .int .i64 v, .int .i64 d]) (.agg #[.int .i64 0, .int .i64 0, .int .i64 0, .int .i64 0, .int .i64 0])).run Tryz.prog w = .ok (decide (i = 0) && (decide (u = 0) && (decide (j = 0) && (decide (v = 0) && decide (d = 0))))) w := by
  rw [run_equalIn_struct w 9999 89 _ _ (by kernel_rfl) (by kernel_rfl)]
  go_simp
  simp only [ite_okS]
  congr 1
  rw [Bool.eq_iff_iff]
  simp only [Bool.and_eq_true, decide_eq_true_eq, and_true]

set_option maxRecDepth 100000 in
set_option maxHeartbeats 4000000 in
theorem fol_inf1 (K : Nat) (bv : Value) (i u bi bu j M D U m : Int) (h : i ≠ 0)
    (w : World) :
    Calls Tryz.prog 19 #[.agg #[.int .i64 i, .int .i64 u], .agg #[.int .i64 bi, .int .i64 bu], .agg #[.int .i64 j, .int .i64 M, .int .i64 D, .int .i64 U], .int .i64 m, .func (.func K) #[bv] #[]] w fun r' w' => r' = .returned (.tuple #[.slice none 0 0, .int .i64 10]) ∧ Below w.heap.size w w' := by
  have K0 : Hid (BS w [(w.heap.size + 2, [.int .i64 j, .int .i64 M, .int .i64 D, .int .i64 U]), (w.heap.size + 1, [.int .i64 bi, .int .i64 bu]), (w.heap.size, [.int .i64 i, .int .i64 u])] (((w.alloc (.cells #[.int .i64 i, .int .i64 u] 36)).alloc (.cells #[.int .i64 bi, .int .i64 bu] 36)).alloc (.cells #[.int .i64 j, .int .i64 M, .int .i64 D, .int .i64 U] 38))) := ((((BS.start w).new [.int .i64 i, .int .i64 u] 36 rfl).new [.int .i64 bi, .int .i64 bu] 36 (by simp)).new [.int .i64 j, .int .i64 M, .int .i64 D, .int .i64 U] 38 (by simp))
  go_enter Tryz.func19, Tryz.ntmps19
  go_wp2
  go_ret2
  exact ⟨rfl, K0.out.1⟩

set_option maxRecDepth 100000 in
set_option maxHeartbeats 4000000 in
theorem fol_zero (K : Nat) (bv : Value) (u bi bu M D U m : Int)
    (SG : Hid (∀ w : World, Calls Tryz.prog 37 #[.agg #[.int .i64 0, .int .i64 M, .int .i64 D, .int .i64 U]] w fun r' w' => r' = .returned (.int .i64 0) ∧ Below w.heap.size w w'))
    (w : World) :
    Calls Tryz.prog 19 #[.agg #[.int .i64 0, .int .i64 u], .agg #[.int .i64 bi, .int .i64 bu], .agg #[.int .i64 0, .int .i64 M, .int .i64 D, .int .i64 U], .int .i64 m, .func (.func K) #[bv] #[]] w fun r' w' => r' = .returned (.tuple #[.slice none 0 0, .int .i64 11]) ∧ Below w.heap.size w w' := by
  have K0 : Hid (BS w [(w.heap.size + 2, [.int .i64 0, .int .i64 M, .int .i64 D, .int .i64 U]), (w.heap.size + 1, [.int .i64 bi, .int .i64 bu]), (w.heap.size, [.int .i64 0, .int .i64 u])] (((w.alloc (.cells #[.int .i64 0, .int .i64 u] 36)).alloc (.cells #[.int .i64 bi, .int .i64 bu] 36)).alloc (.cells #[.int .i64 0, .int .i64 M, .int .i64 D, .int .i64 U] 38))) := ((((BS.start w).new [.int .i64 0, .int .i64 u] 36 rfl).new [.int .i64 bi, .int .i64 bu] 36 (by simp)).new [.int .i64 0, .int .i64 M, .int .i64 D, .int .i64 U] 38 (by simp))
  go_enter Tryz.func19, Tryz.ntmps19
  go_upto_region 3 with fail
  refine bs_to K0 ?_
  clear K0
  intro W0 K0
  go_cut [12] (fun v0 wx => ∃ nb, v0 = .pointer (some ⟨nb, 0, none⟩) ∧ Hid (BS w ((nb, [.int .i64 0, .int .i64 u, .int .i64 bi, .int .i64 bu, .int .i64 0]) :: [(w.heap.size + 2, [.int .i64 0, .int .i64 M, .int .i64 D, .int .i64 U]), (w.heap.size + 1, [.int .i64 bi, .int .i64 bu]), (w.heap.size, [.int .i64 0, .int .i64 u])]) wx ∧ (∀ x ∈ ([(w.heap.size + 2, [.int .i64 0, .int .i64 M, .int .i64 D, .int .i64 U]), (w.heap.size + 1, [.int .i64 bi, .int .i64 bu]), (w.heap.size, [.int .i64 0, .int .i64 u])] : List (Nat × List Value)), x.1 ≠ nb)))
  case first =>
    refine wp_region_held_drew (S := BS w [(w.heap.size + 2, [.int .i64 0, .int .i64 M, .int .i64 D, .int .i64 U]), (w.heap.size + 1, [.int .i64 bi, .int .i64 bu]), (w.heap.size, [.int .i64 0, .int .i64 u])]) (by kernel_rfl) K0.out.drew (fun hHeld => ?_)
    refine wpAnyH_take (i := 0) (v := ?_) (oi := { dst := some 24, op := _, type := _, pos := _, after := _, guard := none }) rfl (by kernel_rfl) (by kernel_rfl) (by kernel_rfl) (fun _ _ _ h => h) (Or.inl ⟨by kernel_rfl, ?_⟩) (by assumption) ?_
    case refine_2 => (intro w9 hSw; have l0_0 := (hSw.at (w.heap.size + 2) [.int .i64 0, .int .i64 M, .int .i64 D, .int .i64 U] (by simp)).c 0 rfl; have l0_1 := (hSw.at (w.heap.size + 2) [.int .i64 0, .int .i64 M, .int .i64 D, .int .i64 U] (by simp)).c 1 rfl; have l0_2 := (hSw.at (w.heap.size + 2) [.int .i64 0, .int .i64 M, .int .i64 D, .int .i64 U] (by simp)).c 2 rfl; have l0_3 := (hSw.at (w.heap.size + 2) [.int .i64 0, .int .i64 M, .int .i64 D, .int .i64 U] (by simp)).c 3 rfl; have l1_0 := (hSw.at (w.heap.size + 1) [.int .i64 bi, .int .i64 bu] (by simp)).c 0 rfl; have l1_1 := (hSw.at (w.heap.size + 1) [.int .i64 bi, .int .i64 bu] (by simp)).c 1 rfl; have l2_0 := (hSw.at (w.heap.size) [.int .i64 0, .int .i64 u] (by simp)).c 0 rfl; have l2_1 := (hSw.at (w.heap.size) [.int .i64 0, .int .i64 u] (by simp)).c 1 rfl; clear hSw; go_simp; try with_reducible rfl)
    simp only [Act.put, List.setIfInBounds_toArray, List.set_cons_zero, List.set_cons_succ]
    refine wpAnyH_take (i := 1) (v := ?_) (oi := { dst := some 25, op := _, type := _, pos := _, after := _, guard := none }) rfl (by kernel_rfl) (by kernel_rfl) (by kernel_rfl) (fun _ _ _ h => h) (Or.inl ⟨by kernel_rfl, ?_⟩) (by assumption) ?_
    case refine_2 => (intro w9 hSw; have l0_0 := (hSw.at (w.heap.size + 2) [.int .i64 0, .int .i64 M, .int .i64 D, .int .i64 U] (by simp)).c 0 rfl; have l0_1 := (hSw.at (w.heap.size + 2) [.int .i64 0, .int .i64 M, .int .i64 D, .int .i64 U] (by simp)).c 1 rfl; have l0_2 := (hSw.at (w.heap.size + 2) [.int .i64 0, .int .i64 M, .int .i64 D, .int .i64 U] (by simp)).c 2 rfl; have l0_3 := (hSw.at (w.heap.size + 2) [.int .i64 0, .int .i64 M, .int .i64 D, .int .i64 U] (by simp)).c 3 rfl; have l1_0 := (hSw.at (w.heap.size + 1) [.int .i64 bi, .int .i64 bu] (by simp)).c 0 rfl; have l1_1 := (hSw.at (w.heap.size + 1) [.int .i64 bi, .int .i64 bu] (by simp)).c 1 rfl; have l2_0 := (hSw.at (w.heap.size) [.int .i64 0, .int .i64 u] (by simp)).c 0 rfl; have l2_1 := (hSw.at (w.heap.size) [.int .i64 0, .int .i64 u] (by simp)).c 1 rfl; clear hSw; go_simp; try with_reducible rfl)
    simp only [Act.put, List.setIfInBounds_toArray, List.set_cons_zero, List.set_cons_succ]
    refine wpAnyH_take (i := 2) (v := ?_) (oi := { dst := some 26, op := _, type := _, pos := _, after := _, guard := none }) rfl (by kernel_rfl) (by kernel_rfl) (by kernel_rfl) (fun _ _ _ h => h) (Or.inl ⟨by kernel_rfl, ?_⟩) (by assumption) ?_
    case refine_2 => (intro w9 hSw; have l0_0 := (hSw.at (w.heap.size + 2) [.int .i64 0, .int .i64 M, .int .i64 D, .int .i64 U] (by simp)).c 0 rfl; have l0_1 := (hSw.at (w.heap.size + 2) [.int .i64 0, .int .i64 M, .int .i64 D, .int .i64 U] (by simp)).c 1 rfl; have l0_2 := (hSw.at (w.heap.size + 2) [.int .i64 0, .int .i64 M, .int .i64 D, .int .i64 U] (by simp)).c 2 rfl; have l0_3 := (hSw.at (w.heap.size + 2) [.int .i64 0, .int .i64 M, .int .i64 D, .int .i64 U] (by simp)).c 3 rfl; have l1_0 := (hSw.at (w.heap.size + 1) [.int .i64 bi, .int .i64 bu] (by simp)).c 0 rfl; have l1_1 := (hSw.at (w.heap.size + 1) [.int .i64 bi, .int .i64 bu] (by simp)).c 1 rfl; have l2_0 := (hSw.at (w.heap.size) [.int .i64 0, .int .i64 u] (by simp)).c 0 rfl; have l2_1 := (hSw.at (w.heap.size) [.int .i64 0, .int .i64 u] (by simp)).c 1 rfl; clear hSw; go_simp; try with_reducible rfl)
    simp only [Act.put, List.setIfInBounds_toArray, List.set_cons_zero, List.set_cons_succ]
    refine wpAnyH_ready (rs := [3, 5]) (by kernel_rfl) (by simp) (AllReadyH.cons (o := { dst := some 27, op := _, type := _, pos := _, after := _, guard := none }) rfl (fun K hK => ?_) (AllReadyH.cons (o := { dst := some 12, op := _, type := _, pos := _, after := _, guard := none }) rfl (fun K hK => ?_) AllReadyH.nil))
    ·
      go_simp
      refine (SG.out _).mono ?_
      rintro e v1 ⟨rfl, hb1⟩
      refine hK.out _ _ (hHeld.below hb1) (fun hHeld => ?_)
      try (have HN2 := HN.out.below hb1; clear HN; have HN : Hid (NB _ _ _ _ _) := HN2; clear HN2)
      clear hK K hb1
      refine wpAnyH_take (i := 4) (v := ?_) (oi := { dst := some 28, op := _, type := _, pos := _, after := _, guard := none }) rfl (by kernel_rfl) (by kernel_rfl) (by kernel_rfl) (fun _ _ _ h => h) (Or.inl ⟨by kernel_rfl, ?_⟩) (by assumption) ?_
      case refine_2 => (intro w9 hSw; clear hSw; go_simp; try with_reducible rfl)
      simp only [Act.put, List.setIfInBounds_toArray, List.set_cons_zero, List.set_cons_succ]
      refine wpAnyH_ready (rs := [5]) (by kernel_rfl) (by simp) (AllReadyH.cons (o := { dst := some 12, op := _, type := _, pos := _, after := _, guard := none }) rfl (fun K hK => ?_) AllReadyH.nil)
      go_simp
      have hH0 := hHeld
      refine hK.out _ _ (hHeld.alloc _) (fun hHeld => ?_)
      have HN : Hid (NB _ _ _ _ [.int .i64 0, .int .i64 0, .int .i64 0, .int .i64 0, .int .i64 0]) := hH0.nb hHeld
      clear hK K hH0
      refine wpAnyH_ready (rs := [6]) (by kernel_rfl) (by simp) (AllReadyH.cons (o := { dst := none, op := _, type := _, pos := _, after := _, guard := none }) rfl (fun K hK => ?_) AllReadyH.nil)
      refine (if_pos (by kernel_rfl)).mpr (wp_store_mid 89 _ _ rfl _ 0 #[.int .i64 0, .int .i64 u, .int .i64 bi, .int .i64 bu, .int .i64 0] rfl rfl HN.out.1.there (by kernel_rfl) (by simp [Value.oneCell']) (hK.out _ _ (hHeld.off HN.out.2.1 HN.out.2.2 _) (fun hHeld => ?_)))
      have HN2 : Hid (BS w ((_, [.int .i64 0, .int .i64 u, .int .i64 bi, .int .i64 bu, .int .i64 0]) :: [(w.heap.size + 2, [.int .i64 0, .int .i64 M, .int .i64 D, .int .i64 U]), (w.heap.size + 1, [.int .i64 bi, .int .i64 bu]), (w.heap.size, [.int .i64 0, .int .i64 u])]) _ ∧ _) := ⟨⟨hHeld.1, fun x hx => by rcases List.mem_cons.1 hx with rfl | hx; exact ⟨HN.out.2.1, HN.out.1.setAll _ rfl⟩; exact hHeld.2 x hx⟩, HN.out.2.2⟩
      clear hK K HN
      refine wpAnyH_done (by kernel_rfl) ?_ _
      go_wp2_with fail
      go_meet
      case rel => exact ⟨_, rfl, HN2.out⟩
    ·
      go_simp
      have hH0 := hHeld
      refine hK.out _ _ (hHeld.alloc _) (fun hHeld => ?_)
      have HN : Hid (NB _ _ _ _ [.int .i64 0, .int .i64 0, .int .i64 0, .int .i64 0, .int .i64 0]) := hH0.nb hHeld
      clear hK K hH0
      refine wpAnyH_ready (rs := [3]) (by kernel_rfl) (by simp) (AllReadyH.cons (o := { dst := some 27, op := _, type := _, pos := _, after := _, guard := none }) rfl (fun K hK => ?_) AllReadyH.nil)
      go_simp
      refine (SG.out _).mono ?_
      rintro e v5 ⟨rfl, hb5⟩
      refine hK.out _ _ (hHeld.below hb5) (fun hHeld => ?_)
      try (have HN2 := HN.out.below hb5; clear HN; have HN : Hid (NB _ _ _ _ _) := HN2; clear HN2)
      clear hK K hb5
      refine wpAnyH_take (i := 4) (v := ?_) (oi := { dst := some 28, op := _, type := _, pos := _, after := _, guard := none }) rfl (by kernel_rfl) (by kernel_rfl) (by kernel_rfl) (fun _ _ _ h => h) (Or.inl ⟨by kernel_rfl, ?_⟩) (by assumption) ?_
      case refine_2 => (intro w9 hSw; clear hSw; go_simp; try with_reducible rfl)
      simp only [Act.put, List.setIfInBounds_toArray, List.set_cons_zero, List.set_cons_succ]
      refine wpAnyH_ready (rs := [6]) (by kernel_rfl) (by simp) (AllReadyH.cons (o := { dst := none, op := _, type := _, pos := _, after := _, guard := none }) rfl (fun K hK => ?_) AllReadyH.nil)
      refine (if_pos (by kernel_rfl)).mpr (wp_store_mid 89 _ _ rfl _ 0 #[.int .i64 0, .int .i64 u, .int .i64 bi, .int .i64 bu, .int .i64 0] rfl rfl HN.out.1.there (by kernel_rfl) (by simp [Value.oneCell']) (hK.out _ _ (hHeld.off HN.out.2.1 HN.out.2.2 _) (fun hHeld => ?_)))
      have HN2 : Hid (BS w ((_, [.int .i64 0, .int .i64 u, .int .i64 bi, .int .i64 bu, .int .i64 0]) :: [(w.heap.size + 2, [.int .i64 0, .int .i64 M, .int .i64 D, .int .i64 U]), (w.heap.size + 1, [.int .i64 bi, .int .i64 bu]), (w.heap.size, [.int .i64 0, .int .i64 u])]) _ ∧ _) := ⟨⟨hHeld.1, fun x hx => by rcases List.mem_cons.1 hx with rfl | hx; exact ⟨HN.out.2.1, HN.out.1.setAll _ rfl⟩; exact hHeld.2 x hx⟩, HN.out.2.2⟩
      clear hK K HN
      refine wpAnyH_done (by kernel_rfl) ?_ _
      go_wp2_with fail
      go_meet
      case rel => exact ⟨_, rfl, HN2.out⟩
  case rest =>
    obtain ⟨nb0, rfl, KK⟩ := hcut
    clear K0
    have K1 : Hid (BS w [(nb0, [.int .i64 0, .int .i64 u, .int .i64 bi, .int .i64 bu, .int .i64 0]), (w.heap.size + 2, [.int .i64 0, .int .i64 M, .int .i64 D, .int .i64 U]), (w.heap.size + 1, [.int .i64 bi, .int .i64 bu]), (w.heap.size, [.int .i64 0, .int .i64 u])] wc) := KK.out.1
    have ne1_0 : w.heap.size + 2 ≠ nb0 := KK.out.2 (w.heap.size + 2, [.int .i64 0, .int .i64 M, .int .i64 D, .int .i64 U]) (by simp)
    have ne1_1 : w.heap.size + 1 ≠ nb0 := KK.out.2 (w.heap.size + 1, [.int .i64 bi, .int .i64 bu]) (by simp)
    have ne1_2 : w.heap.size ≠ nb0 := KK.out.2 (w.heap.size, [.int .i64 0, .int .i64 u]) (by simp)
    clear KK
    obtain ⟨c1_0_0, c1_0_1, c1_0_2, c1_0_3, c1_0_4⟩ := (bo1 K1).c5
    obtain ⟨c1_1_0, c1_1_1, c1_1_2, c1_1_3⟩ := (bo2 K1).c4
    obtain ⟨c1_2_0, c1_2_1⟩ := (bo3 K1).c2
    obtain ⟨c1_3_0, c1_3_1⟩ := (bo4 K1).c2
    go_wp2
    go_ret2
    exact ⟨rfl, K1.out.1⟩

set_option maxRecDepth 100000 in
set_option maxHeartbeats 4000000 in
theorem fol_run (Ok : World → Prop) (hOk : Hid (∀ W V : World, Ok W → Below W.heap.size W V → Ok V)) (K : Nat) (bv : Value) (hE : ∀ args w, (callFunc K args).run Tryz.prog w = .ok (.enter K args) w) (N : Int → Int × Int) (bey : Int → Bool) (ld : Int → Int → Bool) (VL : Int → Prop) (u bi bu M D U d : Int) (m : Nat) (hm : m ≤ 1000) (hd : d ≠ 0) (hu : VL u) (LA : List Int) (EA : Int) (HA : Hid (folF N bey ld m u none [] = (LA, EA)))
    (NX : Hid (∀ x : Int, VL x → bey x = false → ∀ w : World, Ok w → Calls Tryz.prog K #[bv, .agg #[.int .i64 0, .int .i64 x]] w fun r' w' => r' = .returned (.tuple #[.agg #[.int .i64 0, .int .i64 (N x).1], .int .i64 (N x).2]) ∧ Below w.heap.size w w'))
    (HV : Hid (∀ x : Int, VL x → bey x = false → (N x).2 = 0 → VL (N x).1))
    (BY : Hid (∀ x : Int, VL x → ∀ w : World, Ok w → Calls Tryz.prog 38 #[.agg #[.int .i64 0, .int .i64 x, .int .i64 bi, .int .i64 bu, .int .i64 d]] w fun r' w' => r' = .returned (.bool (bey x)) ∧ Below w.heap.size w w'))
    (LD : Hid (∀ q x : Int, VL q → VL x → ∀ w : World, Ok w → Calls Tryz.prog 39 #[.agg #[.int .i64 0, .int .i64 q, .int .i64 bi, .int .i64 bu, .int .i64 d], .agg #[.int .i64 0, .int .i64 x, .int .i64 bi, .int .i64 bu, .int .i64 d]] w fun r' w' => r' = .returned (.bool (ld q x)) ∧ Below w.heap.size w w'))
    (SG : Hid (∀ w : World, Calls Tryz.prog 37 #[.agg #[.int .i64 0, .int .i64 M, .int .i64 D, .int .i64 U]] w fun r' w' => r' = .returned (.int .i64 d) ∧ Below w.heap.size w w'))
    (w : World) (HW : Hid (Ok w)) :
    Calls Tryz.prog 19 #[.agg #[.int .i64 0, .int .i64 u], .agg #[.int .i64 bi, .int .i64 bu], .agg #[.int .i64 0, .int .i64 M, .int .i64 D, .int .i64 U], .int .i64 (m : Int), .func (.func K) #[bv] #[]] w fun r' w' => ∃ v, r' = .returned (.tuple #[v, .int .i64 EA]) ∧ Below w.heap.size w w' ∧ w'.ownsRow w.heap.size 36 2 v LA.length (cT LA) := by
  have K0 : Hid (BS w [(w.heap.size + 2, [.int .i64 0, .int .i64 M, .int .i64 D, .int .i64 U]), (w.heap.size + 1, [.int .i64 bi, .int .i64 bu]), (w.heap.size, [.int .i64 0, .int .i64 u])] (((w.alloc (.cells #[.int .i64 0, .int .i64 u] 36)).alloc (.cells #[.int .i64 bi, .int .i64 bu] 36)).alloc (.cells #[.int .i64 0, .int .i64 M, .int .i64 D, .int .i64 U] 38))) := ((((BS.start w).new [.int .i64 0, .int .i64 u] 36 rfl).new [.int .i64 bi, .int .i64 bu] 36 (by simp)).new [.int .i64 0, .int .i64 M, .int .i64 D, .int .i64 U] 38 (by simp))
  go_enter Tryz.func19, Tryz.ntmps19
  go_upto_region 3 with fail
  refine bs_to K0 ?_
  clear K0
  intro W0 K0
  go_cut [12] (fun v0 wx => ∃ nb, v0 = .pointer (some ⟨nb, 0, none⟩) ∧ Hid (BS w ((nb, [.int .i64 0, .int .i64 u, .int .i64 bi, .int .i64 bu, .int .i64 d]) :: [(w.heap.size + 2, [.int .i64 0, .int .i64 M, .int .i64 D, .int .i64 U]), (w.heap.size + 1, [.int .i64 bi, .int .i64 bu]), (w.heap.size, [.int .i64 0, .int .i64 u])]) wx ∧ (∀ x ∈ ([(w.heap.size + 2, [.int .i64 0, .int .i64 M, .int .i64 D, .int .i64 U]), (w.heap.size + 1, [.int .i64 bi, .int .i64 bu]), (w.heap.size, [.int .i64 0, .int .i64 u])] : List (Nat × List Value)), x.1 ≠ nb)))
  case first =>
    refine wp_region_held_drew (S := BS w [(w.heap.size + 2, [.int .i64 0, .int .i64 M, .int .i64 D, .int .i64 U]), (w.heap.size + 1, [.int .i64 bi, .int .i64 bu]), (w.heap.size, [.int .i64 0, .int .i64 u])]) (by kernel_rfl) K0.out.drew (fun hHeld => ?_)
    refine wpAnyH_take (i := 0) (v := ?_) (oi := { dst := some 24, op := _, type := _, pos := _, after := _, guard := none }) rfl (by kernel_rfl) (by kernel_rfl) (by kernel_rfl) (fun _ _ _ h => h) (Or.inl ⟨by kernel_rfl, ?_⟩) (by assumption) ?_
    case refine_2 => (intro w9 hSw; have l0_0 := (hSw.at (w.heap.size + 2) [.int .i64 0, .int .i64 M, .int .i64 D, .int .i64 U] (by simp)).c 0 rfl; have l0_1 := (hSw.at (w.heap.size + 2) [.int .i64 0, .int .i64 M, .int .i64 D, .int .i64 U] (by simp)).c 1 rfl; have l0_2 := (hSw.at (w.heap.size + 2) [.int .i64 0, .int .i64 M, .int .i64 D, .int .i64 U] (by simp)).c 2 rfl; have l0_3 := (hSw.at (w.heap.size + 2) [.int .i64 0, .int .i64 M, .int .i64 D, .int .i64 U] (by simp)).c 3 rfl; have l1_0 := (hSw.at (w.heap.size + 1) [.int .i64 bi, .int .i64 bu] (by simp)).c 0 rfl; have l1_1 := (hSw.at (w.heap.size + 1) [.int .i64 bi, .int .i64 bu] (by simp)).c 1 rfl; have l2_0 := (hSw.at (w.heap.size) [.int .i64 0, .int .i64 u] (by simp)).c 0 rfl; have l2_1 := (hSw.at (w.heap.size) [.int .i64 0, .int .i64 u] (by simp)).c 1 rfl; clear hSw; go_simp; try with_reducible rfl)
    simp only [Act.put, List.setIfInBounds_toArray, List.set_cons_zero, List.set_cons_succ]
    refine wpAnyH_take (i := 1) (v := ?_) (oi := { dst := some 25, op := _, type := _, pos := _, after := _, guard := none }) rfl (by kernel_rfl) (by kernel_rfl) (by kernel_rfl) (fun _ _ _ h => h) (Or.inl ⟨by kernel_rfl, ?_⟩) (by assumption) ?_
    case refine_2 => (intro w9 hSw; have l0_0 := (hSw.at (w.heap.size + 2) [.int .i64 0, .int .i64 M, .int .i64 D, .int .i64 U] (by simp)).c 0 rfl; have l0_1 := (hSw.at (w.heap.size + 2) [.int .i64 0, .int .i64 M, .int .i64 D, .int .i64 U] (by simp)).c 1 rfl; have l0_2 := (hSw.at (w.heap.size + 2) [.int .i64 0, .int .i64 M, .int .i64 D, .int .i64 U] (by simp)).c 2 rfl; have l0_3 := (hSw.at (w.heap.size + 2) [.int .i64 0, .int .i64 M, .int .i64 D, .int .i64 U] (by simp)).c 3 rfl; have l1_0 := (hSw.at (w.heap.size + 1) [.int .i64 bi, .int .i64 bu] (by simp)).c 0 rfl; have l1_1 := (hSw.at (w.heap.size + 1) [.int .i64 bi, .int .i64 bu] (by simp)).c 1 rfl; have l2_0 := (hSw.at (w.heap.size) [.int .i64 0, .int .i64 u] (by simp)).c 0 rfl; have l2_1 := (hSw.at (w.heap.size) [.int .i64 0, .int .i64 u] (by simp)).c 1 rfl; clear hSw; go_simp; try with_reducible rfl)
    simp only [Act.put, List.setIfInBounds_toArray, List.set_cons_zero, List.set_cons_succ]
    refine wpAnyH_take (i := 2) (v := ?_) (oi := { dst := some 26, op := _, type := _, pos := _, after := _, guard := none }) rfl (by kernel_rfl) (by kernel_rfl) (by kernel_rfl) (fun _ _ _ h => h) (Or.inl ⟨by kernel_rfl, ?_⟩) (by assumption) ?_
    case refine_2 => (intro w9 hSw; have l0_0 := (hSw.at (w.heap.size + 2) [.int .i64 0, .int .i64 M, .int .i64 D, .int .i64 U] (by simp)).c 0 rfl; have l0_1 := (hSw.at (w.heap.size + 2) [.int .i64 0, .int .i64 M, .int .i64 D, .int .i64 U] (by simp)).c 1 rfl; have l0_2 := (hSw.at (w.heap.size + 2) [.int .i64 0, .int .i64 M, .int .i64 D, .int .i64 U] (by simp)).c 2 rfl; have l0_3 := (hSw.at (w.heap.size + 2) [.int .i64 0, .int .i64 M, .int .i64 D, .int .i64 U] (by simp)).c 3 rfl; have l1_0 := (hSw.at (w.heap.size + 1) [.int .i64 bi, .int .i64 bu] (by simp)).c 0 rfl; have l1_1 := (hSw.at (w.heap.size + 1) [.int .i64 bi, .int .i64 bu] (by simp)).c 1 rfl; have l2_0 := (hSw.at (w.heap.size) [.int .i64 0, .int .i64 u] (by simp)).c 0 rfl; have l2_1 := (hSw.at (w.heap.size) [.int .i64 0, .int .i64 u] (by simp)).c 1 rfl; clear hSw; go_simp; try with_reducible rfl)
    simp only [Act.put, List.setIfInBounds_toArray, List.set_cons_zero, List.set_cons_succ]
    refine wpAnyH_ready (rs := [3, 5]) (by kernel_rfl) (by simp) (AllReadyH.cons (o := { dst := some 27, op := _, type := _, pos := _, after := _, guard := none }) rfl (fun K hK => ?_) (AllReadyH.cons (o := { dst := some 12, op := _, type := _, pos := _, after := _, guard := none }) rfl (fun K hK => ?_) AllReadyH.nil))
    ·
      go_simp
      refine (SG.out _).mono ?_
      rintro e v1 ⟨rfl, hb1⟩
      refine hK.out _ _ (hHeld.below hb1) (fun hHeld => ?_)
      try (have HN2 := HN.out.below hb1; clear HN; have HN : Hid (NB _ _ _ _ _) := HN2; clear HN2)
      clear hK K hb1
      refine wpAnyH_take (i := 4) (v := ?_) (oi := { dst := some 28, op := _, type := _, pos := _, after := _, guard := none }) rfl (by kernel_rfl) (by kernel_rfl) (by kernel_rfl) (fun _ _ _ h => h) (Or.inl ⟨by kernel_rfl, ?_⟩) (by assumption) ?_
      case refine_2 => (intro w9 hSw; clear hSw; go_simp; try with_reducible rfl)
      simp only [Act.put, List.setIfInBounds_toArray, List.set_cons_zero, List.set_cons_succ]
      refine wpAnyH_ready (rs := [5]) (by kernel_rfl) (by simp) (AllReadyH.cons (o := { dst := some 12, op := _, type := _, pos := _, after := _, guard := none }) rfl (fun K hK => ?_) AllReadyH.nil)
      go_simp
      have hH0 := hHeld
      refine hK.out _ _ (hHeld.alloc _) (fun hHeld => ?_)
      have HN : Hid (NB _ _ _ _ [.int .i64 0, .int .i64 0, .int .i64 0, .int .i64 0, .int .i64 0]) := hH0.nb hHeld
      clear hK K hH0
      refine wpAnyH_ready (rs := [6]) (by kernel_rfl) (by simp) (AllReadyH.cons (o := { dst := none, op := _, type := _, pos := _, after := _, guard := none }) rfl (fun K hK => ?_) AllReadyH.nil)
      refine (if_pos (by kernel_rfl)).mpr (wp_store_mid 89 _ _ rfl _ 0 #[.int .i64 0, .int .i64 u, .int .i64 bi, .int .i64 bu, .int .i64 d] rfl rfl HN.out.1.there (by kernel_rfl) (by simp [Value.oneCell']) (hK.out _ _ (hHeld.off HN.out.2.1 HN.out.2.2 _) (fun hHeld => ?_)))
      have HN2 : Hid (BS w ((_, [.int .i64 0, .int .i64 u, .int .i64 bi, .int .i64 bu, .int .i64 d]) :: [(w.heap.size + 2, [.int .i64 0, .int .i64 M, .int .i64 D, .int .i64 U]), (w.heap.size + 1, [.int .i64 bi, .int .i64 bu]), (w.heap.size, [.int .i64 0, .int .i64 u])]) _ ∧ _) := ⟨⟨hHeld.1, fun x hx => by rcases List.mem_cons.1 hx with rfl | hx; exact ⟨HN.out.2.1, HN.out.1.setAll _ rfl⟩; exact hHeld.2 x hx⟩, HN.out.2.2⟩
      clear hK K HN
      refine wpAnyH_done (by kernel_rfl) ?_ _
      go_wp2_with fail
      go_meet
      case rel => exact ⟨_, rfl, HN2.out⟩
    ·
      go_simp
      have hH0 := hHeld
      refine hK.out _ _ (hHeld.alloc _) (fun hHeld => ?_)
      have HN : Hid (NB _ _ _ _ [.int .i64 0, .int .i64 0, .int .i64 0, .int .i64 0, .int .i64 0]) := hH0.nb hHeld
      clear hK K hH0
      refine wpAnyH_ready (rs := [3]) (by kernel_rfl) (by simp) (AllReadyH.cons (o := { dst := some 27, op := _, type := _, pos := _, after := _, guard := none }) rfl (fun K hK => ?_) AllReadyH.nil)
      go_simp
      refine (SG.out _).mono ?_
      rintro e v5 ⟨rfl, hb5⟩
      refine hK.out _ _ (hHeld.below hb5) (fun hHeld => ?_)
      try (have HN2 := HN.out.below hb5; clear HN; have HN : Hid (NB _ _ _ _ _) := HN2; clear HN2)
      clear hK K hb5
      refine wpAnyH_take (i := 4) (v := ?_) (oi := { dst := some 28, op := _, type := _, pos := _, after := _, guard := none }) rfl (by kernel_rfl) (by kernel_rfl) (by kernel_rfl) (fun _ _ _ h => h) (Or.inl ⟨by kernel_rfl, ?_⟩) (by assumption) ?_
      case refine_2 => (intro w9 hSw; clear hSw; go_simp; try with_reducible rfl)
      simp only [Act.put, List.setIfInBounds_toArray, List.set_cons_zero, List.set_cons_succ]
      refine wpAnyH_ready (rs := [6]) (by kernel_rfl) (by simp) (AllReadyH.cons (o := { dst := none, op := _, type := _, pos := _, after := _, guard := none }) rfl (fun K hK => ?_) AllReadyH.nil)
      refine (if_pos (by kernel_rfl)).mpr (wp_store_mid 89 _ _ rfl _ 0 #[.int .i64 0, .int .i64 u, .int .i64 bi, .int .i64 bu, .int .i64 d] rfl rfl HN.out.1.there (by kernel_rfl) (by simp [Value.oneCell']) (hK.out _ _ (hHeld.off HN.out.2.1 HN.out.2.2 _) (fun hHeld => ?_)))
      have HN2 : Hid (BS w ((_, [.int .i64 0, .int .i64 u, .int .i64 bi, .int .i64 bu, .int .i64 d]) :: [(w.heap.size + 2, [.int .i64 0, .int .i64 M, .int .i64 D, .int .i64 U]), (w.heap.size + 1, [.int .i64 bi, .int .i64 bu]), (w.heap.size, [.int .i64 0, .int .i64 u])]) _ ∧ _) := ⟨⟨hHeld.1, fun x hx => by rcases List.mem_cons.1 hx with rfl | hx; exact ⟨HN.out.2.1, HN.out.1.setAll _ rfl⟩; exact hHeld.2 x hx⟩, HN.out.2.2⟩
      clear hK K HN
      refine wpAnyH_done (by kernel_rfl) ?_ _
      go_wp2_with fail
      go_meet
      case rel => exact ⟨_, rfl, HN2.out⟩
  case rest =>
    obtain ⟨nb0, rfl, KK⟩ := hcut
    clear K0
    have K1 : Hid (BS w [(nb0, [.int .i64 0, .int .i64 u, .int .i64 bi, .int .i64 bu, .int .i64 d]), (w.heap.size + 2, [.int .i64 0, .int .i64 M, .int .i64 D, .int .i64 U]), (w.heap.size + 1, [.int .i64 bi, .int .i64 bu]), (w.heap.size, [.int .i64 0, .int .i64 u])] wc) := KK.out.1
    have ne1_0 : w.heap.size + 2 ≠ nb0 := KK.out.2 (w.heap.size + 2, [.int .i64 0, .int .i64 M, .int .i64 D, .int .i64 U]) (by simp)
    have ne1_1 : w.heap.size + 1 ≠ nb0 := KK.out.2 (w.heap.size + 1, [.int .i64 bi, .int .i64 bu]) (by simp)
    have ne1_2 : w.heap.size ≠ nb0 := KK.out.2 (w.heap.size, [.int .i64 0, .int .i64 u]) (by simp)
    clear KK
    obtain ⟨c1_0_0, c1_0_1, c1_0_2, c1_0_3, c1_0_4⟩ := (bo1 K1).c5
    obtain ⟨c1_1_0, c1_1_1, c1_1_2, c1_1_3⟩ := (bo2 K1).c4
    obtain ⟨c1_2_0, c1_2_1⟩ := (bo3 K1).c2
    obtain ⟨c1_3_0, c1_3_1⟩ := (bo4 K1).c2
    have hd0 : (d == 0) = false := by simpa using hd
    have HK : Hid (BS w [(nb0, [.int .i64 0, .int .i64 u, .int .i64 bi, .int .i64 bu, .int .i64 d])] wc) := K1.out.perm (by intro x hx; simp only [List.mem_cons, List.not_mem_nil, or_false] at hx ⊢; simp [hx])
    have HS0 : Hid (FS w wc.heap.size wc.heap.size nb0 (ahC bi bu d none) [.int .i64 0, .int .i64 u, .int .i64 bi, .int .i64 bu, .int .i64 d] (.slice none 0 0) 0 (cT []) (wc.alloc (.cells (ahC bi bu d none).toArray 89))) :=
      ⟨HK.out.new _ _ rfl, Ty.new _ _ _, World.ownsRow_nil _ _ _ _, (bo1 HK).1, Nat.le_refl _⟩
    have hbase : w.heap.size ≤ wc.heap.size := HK.out.1.size
    have EQ0 : ∀ w : World, (Op.equalIn 10000 89 (.agg #[.int .i64 0, .int .i64 0, .int .i64 0, .int .i64 0, .int .i64 0]) (.agg #[.int .i64 0, .int .i64 0, .int .i64 0, .int .i64 0, .int .i64 0])).run Tryz.prog w = .ok true w := fun w => course_eq 0 0 0 0 0 w
    have EQ1 : ∀ (q : Int) (w : World), (Op.equalIn 10000 89 (.agg #[.int .i64 0, .int .i64 q, .int .i64 bi, .int .i64 bu, .int .i64 d]) (.agg #[.int .i64 0, .int .i64 0, .int .i64 0, .int .i64 0, .int .i64 0])).run Tryz.prog w = .ok false w := fun q w => by
      rw [course_eq 0 q bi bu d w, decide_eq_false hd]; simp
    obtain ⟨i0, hi, hz0, hz1, hz2⟩ := info_parts infoSt
    go_wp2_with fail
    generalize wc.heap.size = base at *
    go_loopw [13, 14, 15] (fun lv ev av W => ∃ (i c p : Nat) (ao : Option Addr) (e x : Int) (ah : Option Int) (L : List Int), i ≤ m ∧ lv = .slice ao i c ∧ ev = .int .i64 e ∧ av = .pointer (some ⟨p, 0, none⟩) ∧ Hid (L.length = i) ∧ Hid (VL x) ∧ Hid (∀ q, ah = some q → VL q) ∧ Hid (folF N bey ld (m - i) x ah L = (LA, EA)) ∧ Hid (FS w base p nb0 (ahC bi bu d ah) [.int .i64 0, .int .i64 x, .int .i64 bi, .int .i64 bu, .int .i64 d] (.slice ao i c) i (cT L) W)) (fun lv _ _ _ => m - (lenOf lv))
    case atStart => exact ⟨0, 0, base, none, 0, u, none, [], Nat.zero_le _, rfl, rfl, rfl, rfl, hu, (fun q h => by cases h), HA, HS0⟩
    case round =>
      clear HS0 HK K1 HA
      obtain ⟨i, c, p, ao, e, x, ah, L, him, rfl, rfl, rfl, HLn, HX, HQ, HA2, HF⟩ := hrel
      obtain ⟨n0, n1, n2, n3, n4⟩ := (HF.out.bs.tail.first).c5
      have HO : Hid (Ok wr) := hOk.out w wr HW.out HF.out.bs.1
      have BX : Hid (∀ w : World, Ok w → Calls Tryz.prog 38 #[.agg #[.int .i64 0, .int .i64 x, .int .i64 bi, .int .i64 bu, .int .i64 d]] w fun r' w' => r' = .returned (.bool (bey x)) ∧ Below w.heap.size w w') := BY.out x HX.out
      cases hbx : bey x
      · rw [hbx] at BX
        go_wp2_with fail
        refine (BX.out _ HO.out).mono ?_
        rintro e1 W1 ⟨rfl, hb⟩
        have HF1 : Hid (FS w base p nb0 (ahC bi bu d ah) [.int .i64 0, .int .i64 x, .int .i64 bi, .int .i64 bu, .int .i64 d] (.slice ao i c) i (cT L) W1) := HF.out.below hb
        clear hb HF HO n0 n1 n2 n3 n4 BX
        obtain ⟨n0, n1, n2, n3, n4⟩ := (HF1.out.bs.tail.first).c5
        by_cases hlt : i < m
        · have hne : ¬ (i : Int) = (m : Int) := by omega
          obtain ⟨k, hk⟩ : ∃ k, m - i = k + 1 := ⟨m - i - 1, by omega⟩
          have HA3 : Hid ((if okA ld ah x = false then ([], 11) else if (N x).2 ≠ 0 then ([], (N x).2) else folF N bey ld k (N x).1 (some x) (L ++ [x])) = (LA, EA)) := by
            have h := HA2.out
            rw [hk, fol_s hbx] at h
            exact h
          have HKK : Hid (m - (i + 1) = k) := by show _ = _; omega
          have HBX : Hid (bey x = false) := hbx
          clear hk HA2 hbx
          cases ah with
          | none =>
            have HF2 : Hid (FS w base p nb0 [.int .i64 0, .int .i64 0, .int .i64 0, .int .i64 0, .int .i64 0] [.int .i64 0, .int .i64 x, .int .i64 bi, .int .i64 bu, .int .i64 d] (.slice ao i c) i (cT L) W1) := HF1
            clear HF1
            obtain ⟨q0, q1, q2, q3, q4⟩ := (HF2.out.bs.first).c5
            have HA4 : Hid ((if (N x).2 ≠ 0 then ([], (N x).2) else folF N bey ld k (N x).1 (some x) (L ++ [x])) = (LA, EA)) := by
              have h := HA3.out
              rw [show okA ld none x = true from rfl, if_neg (by decide)] at h
              exact h
            clear HA3
            go_upto_region 15 with (at_builtin; refine wpList_append_own _ rfl _ _ 48 rfl base 36 i0 (.agg #[.int .i64 0, .int .i64 0]) 2 16 Tryz.underlying48 hi hz0 hz1 hz2 rfl (by decide) (.slice ao i c) i (cT L) rfl (HF2.out.own.alloc _) ⟨W1.heap.size, 0, none⟩ 1 1 (cT [x]) rfl rfl (bxc (Bx.new W1 (cT [x]) 36)) (cT_one _) (by unfold maxLen; omega) (by omega) (by have := HF2.out.size; simp; omega) ?_; intro v' w3 hown' hgrow3 _)
            rw [← cT_app] at hown'
            have HG := HF2.out.grown _ hgrow3 hown'
            obtain ⟨ao2, c2, rfl, _, _⟩ := own_form HG.own
            have HF3 : Hid (FS w base p nb0 [.int .i64 0, .int .i64 0, .int .i64 0, .int .i64 0, .int .i64 0] [.int .i64 0, .int .i64 x, .int .i64 bi, .int .i64 bu, .int .i64 d] (.slice ao2 (i + 1) c2) (i + 1) (cT (L ++ [x])) w3) := HG
            clear HG hown' hgrow3 HF2 n0 n1 n2 n3 n4 q0 q1 q2 q3 q4
            obtain ⟨n0, n1, n2, n3, n4⟩ := (HF3.out.bs.tail.first).c5
            obtain ⟨q0, q1, q2, q3, q4⟩ := (HF3.out.bs.first).c5
            obtain ⟨z0, z1, z2, z3, z4⟩ := (HF3.out.bs.first).f5
            have HFs : Hid (FS w base p nb0 [.int .i64 0, .int .i64 x, .int .i64 bi, .int .i64 bu, .int .i64 d] [.int .i64 0, .int .i64 x, .int .i64 bi, .int .i64 bu, .int .i64 d] (.slice ao2 (i + 1) c2) (i + 1) (cT (L ++ [x])) (w3.setCells p 0 [.int .i64 0, .int .i64 x, .int .i64 bi, .int .i64 bu, .int .i64 d])) := HF3.out.setP _ rfl
            simp only [World.setCells, Nat.zero_add, Nat.reduceAdd] at HFs
            go_upto_region 16 with fail
            refine gen_to (fun V => Hid (FS w base p nb0 [.int .i64 0, .int .i64 x, .int .i64 bi, .int .i64 bu, .int .i64 d] [.int .i64 0, .int .i64 x, .int .i64 bi, .int .i64 bu, .int .i64 d] (.slice ao2 (i + 1) c2) (i + 1) (cT (L ++ [x])) V)) HFs ?_
            clear HFs HF3 n0 n1 n2 n3 n4 q0 q1 q2 q3 q4 z0 z1 z2 z3 z4
            intro W4 HF4
            obtain ⟨n0, n1, n2, n3, n4⟩ := (HF4.out.bs.tail.first).c5
            have HO4 : Hid (Ok W4) := hOk.out w W4 HW.out HF4.out.bs.1
            have NX1 : Hid (∀ w : World, Ok w → Calls Tryz.prog K #[bv, .agg #[.int .i64 0, .int .i64 x]] w fun r' w' => r' = .returned (.tuple #[.agg #[.int .i64 0, .int .i64 (N x).1], .int .i64 (N x).2]) ∧ Below w.heap.size w w') := NX.out x HX.out HBX.out
            have HV1 : Hid ((N x).2 = 0 → VL (N x).1) := HV.out x HX.out HBX.out
            generalize N x = NN at *
            obtain ⟨V9, E9⟩ := NN
            go_wp2_with fail
            refine (NX1.out _ HO4.out).mono ?_
            rintro e5 W5 ⟨rfl, hb5⟩
            have HF5 : Hid (FS w base p nb0 [.int .i64 0, .int .i64 x, .int .i64 bi, .int .i64 bu, .int .i64 d] [.int .i64 0, .int .i64 x, .int .i64 bi, .int .i64 bu, .int .i64 d] (.slice ao2 (i + 1) c2) (i + 1) (cT (L ++ [x])) W5) := HF4.out.below hb5
            clear hb5 HF4 HO4 n0 n1 n2 n3 n4 NX1
            obtain ⟨n0, n1, n2, n3, n4⟩ := (HF5.out.bs.tail.first).c5
            obtain ⟨z0, z1, z2, z3, z4⟩ := (HF5.out.bs.tail.first).f5
            have HFs : Hid (FS w base p nb0 [.int .i64 0, .int .i64 x, .int .i64 bi, .int .i64 bu, .int .i64 d] [.int .i64 0, .int .i64 V9, .int .i64 bi, .int .i64 bu, .int .i64 d] (.slice ao2 (i + 1) c2) (i + 1) (cT (L ++ [x])) (W5.setCells nb0 0 [.int .i64 0, .int .i64 V9])) := HF5.out.setN
            simp only [World.setCells, Nat.zero_add] at HFs
            go_upto_region 17 with fail
            refine gen_to (fun V => Hid (FS w base p nb0 [.int .i64 0, .int .i64 x, .int .i64 bi, .int .i64 bu, .int .i64 d] [.int .i64 0, .int .i64 V9, .int .i64 bi, .int .i64 bu, .int .i64 d] (.slice ao2 (i + 1) c2) (i + 1) (cT (L ++ [x])) V)) HFs ?_
            clear HFs HF5 n0 n1 n2 n3 n4 z0 z1 z2 z3 z4
            intro W6 HF6
            obtain ⟨q0, q1, q2, q3, q4⟩ := (HF6.out.bs.first).c5
            by_cases hE9 : E9 = 0
            · subst hE9
              have HA5 : Hid (folF N bey ld k V9 (some x) (L ++ [x]) = (LA, EA)) := by
                have h := HA4.out
                rw [if_neg (by simp)] at h
                exact h
              have HFn : Hid (FS w base W6.heap.size nb0 [.int .i64 0, .int .i64 x, .int .i64 bi, .int .i64 bu, .int .i64 d] [.int .i64 0, .int .i64 V9, .int .i64 bi, .int .i64 bu, .int .i64 d] (.slice ao2 (i + 1) c2) (i + 1) (cT (L ++ [x])) (W6.alloc (.cells ([.int .i64 0, .int .i64 x, .int .i64 bi, .int .i64 bu, .int .i64 d] : List Value).toArray 89))) := HF6.out.newP
              clear HF6
              go_wp2_with fail
              go_roundw
              case rel => exact ⟨i + 1, c2, W6.heap.size, ao2, 0, V9, some x, L ++ [x], hlt, rfl, rfl, rfl, by show _ = _; rw [List.length_append, HLn.out]; rfl, HV1.out rfl, (fun q9 h9 => by cases h9; exact HX.out), by rw [HKK.out]; exact HA5, HFn⟩
              case measure => simp [lenOf]; omega
            · have HE : Hid (([], E9) = (LA, EA)) := by
                have h := HA4.out
                rw [if_pos hE9] at h
                exact h
              obtain ⟨rfl, rfl⟩ := Prod.mk.inj HE.out
              have HB : Hid (Below w.heap.size w W6) := HF6.out.bs.1
              have hE0 : (E9 != 0) = true := by simpa using hE9
              clear HE HA4 HF6
              go_wp2_with fail
              exact bodyPost_ret (v := .tuple #[.slice none 0 0, .int .i64 E9]) (by simp [results, Tryz.results19, go_sem]) rfl ⟨_, rfl, HB.out, World.ownsRow_nil _ _ _ _⟩
          | some q =>
            have HF2 : Hid (FS w base p nb0 [.int .i64 0, .int .i64 q, .int .i64 bi, .int .i64 bu, .int .i64 d] [.int .i64 0, .int .i64 x, .int .i64 bi, .int .i64 bu, .int .i64 d] (.slice ao i c) i (cT L) W1) := HF1
            clear HF1
            obtain ⟨q0, q1, q2, q3, q4⟩ := (HF2.out.bs.first).c5
            have HO : Hid (Ok W1) := hOk.out w W1 HW.out HF2.out.bs.1
            have LX : Hid (∀ w : World, Ok w → Calls Tryz.prog 39 #[.agg #[.int .i64 0, .int .i64 q, .int .i64 bi, .int .i64 bu, .int .i64 d], .agg #[.int .i64 0, .int .i64 x, .int .i64 bi, .int .i64 bu, .int .i64 d]] w fun r' w' => r' = .returned (.bool (ld q x)) ∧ Below w.heap.size w w') := LD.out q x (HQ.out q rfl) HX.out
            cases hld : ld q x
            · rw [hld] at LX
              have HE : Hid (([], 11) = (LA, EA)) := by
                have h := HA3.out
                rw [show okA ld (some q) x = ld q x from rfl, hld, if_pos rfl] at h
                exact h
              obtain ⟨rfl, rfl⟩ := Prod.mk.inj HE.out
              clear HE HA3 hld
              go_wp2_with fail
              refine (LX.out _ HO.out).mono ?_
              rintro e2 W2 ⟨rfl, hb⟩
              have HF3 := HF2.out.below hb
              have HB : Hid (Below w.heap.size w W2) := HF3.bs.1
              clear hb HF3 n0 n1 n2 n3 n4 q0 q1 q2 q3 q4
              go_wp2_with fail
              exact bodyPost_ret (v := .tuple #[.slice none 0 0, .int .i64 11]) (by simp [results, Tryz.results19, go_sem]) rfl ⟨_, rfl, HB.out, World.ownsRow_nil _ _ _ _⟩
            · rw [hld] at LX
              have HA4 : Hid ((if (N x).2 ≠ 0 then ([], (N x).2) else folF N bey ld k (N x).1 (some x) (L ++ [x])) = (LA, EA)) := by
                have h := HA3.out
                rw [show okA ld (some q) x = ld q x from rfl, hld, if_neg (by decide)] at h
                exact h
              clear HA3 hld
              go_wp2_with fail
              refine (LX.out _ HO.out).mono ?_
              rintro e2 W2 ⟨rfl, hb⟩
              have HF3 : Hid (FS w base p nb0 [.int .i64 0, .int .i64 q, .int .i64 bi, .int .i64 bu, .int .i64 d] [.int .i64 0, .int .i64 x, .int .i64 bi, .int .i64 bu, .int .i64 d] (.slice ao i c) i (cT L) W2) := HF2.out.below hb
              clear hb HF2 n0 n1 n2 n3 n4 q0 q1 q2 q3 q4 HO LX
              have HF2 := HF3
              clear HF3
              obtain ⟨n0, n1, n2, n3, n4⟩ := (HF2.out.bs.tail.first).c5
              obtain ⟨q0, q1, q2, q3, q4⟩ := (HF2.out.bs.first).c5
              go_upto_region 15 with (at_builtin; refine wpList_append_own _ rfl _ _ 48 rfl base 36 i0 (.agg #[.int .i64 0, .int .i64 0]) 2 16 Tryz.underlying48 hi hz0 hz1 hz2 rfl (by decide) (.slice ao i c) i (cT L) rfl (HF2.out.own.alloc _) ⟨W2.heap.size, 0, none⟩ 1 1 (cT [x]) rfl rfl (bxc (Bx.new W2 (cT [x]) 36)) (cT_one _) (by unfold maxLen; omega) (by omega) (by have := HF2.out.size; simp; omega) ?_; intro v' w3 hown' hgrow3 _)
              rw [← cT_app] at hown'
              have HG := HF2.out.grown _ hgrow3 hown'
              obtain ⟨ao2, c2, rfl, _, _⟩ := own_form HG.own
              have HF3 : Hid (FS w base p nb0 [.int .i64 0, .int .i64 q, .int .i64 bi, .int .i64 bu, .int .i64 d] [.int .i64 0, .int .i64 x, .int .i64 bi, .int .i64 bu, .int .i64 d] (.slice ao2 (i + 1) c2) (i + 1) (cT (L ++ [x])) w3) := HG
              clear HG hown' hgrow3 HF2 n0 n1 n2 n3 n4 q0 q1 q2 q3 q4
              obtain ⟨n0, n1, n2, n3, n4⟩ := (HF3.out.bs.tail.first).c5
              obtain ⟨q0, q1, q2, q3, q4⟩ := (HF3.out.bs.first).c5
              obtain ⟨z0, z1, z2, z3, z4⟩ := (HF3.out.bs.first).f5
              have HFs : Hid (FS w base p nb0 [.int .i64 0, .int .i64 x, .int .i64 bi, .int .i64 bu, .int .i64 d] [.int .i64 0, .int .i64 x, .int .i64 bi, .int .i64 bu, .int .i64 d] (.slice ao2 (i + 1) c2) (i + 1) (cT (L ++ [x])) (w3.setCells p 0 [.int .i64 0, .int .i64 x, .int .i64 bi, .int .i64 bu, .int .i64 d])) := HF3.out.setP _ rfl
              simp only [World.setCells, Nat.zero_add, Nat.reduceAdd] at HFs
              go_upto_region 16 with fail
              refine gen_to (fun V => Hid (FS w base p nb0 [.int .i64 0, .int .i64 x, .int .i64 bi, .int .i64 bu, .int .i64 d] [.int .i64 0, .int .i64 x, .int .i64 bi, .int .i64 bu, .int .i64 d] (.slice ao2 (i + 1) c2) (i + 1) (cT (L ++ [x])) V)) HFs ?_
              clear HFs HF3 n0 n1 n2 n3 n4 q0 q1 q2 q3 q4 z0 z1 z2 z3 z4
              intro W4 HF4
              obtain ⟨n0, n1, n2, n3, n4⟩ := (HF4.out.bs.tail.first).c5
              have HO4 : Hid (Ok W4) := hOk.out w W4 HW.out HF4.out.bs.1
              have NX1 : Hid (∀ w : World, Ok w → Calls Tryz.prog K #[bv, .agg #[.int .i64 0, .int .i64 x]] w fun r' w' => r' = .returned (.tuple #[.agg #[.int .i64 0, .int .i64 (N x).1], .int .i64 (N x).2]) ∧ Below w.heap.size w w') := NX.out x HX.out HBX.out
              have HV1 : Hid ((N x).2 = 0 → VL (N x).1) := HV.out x HX.out HBX.out
              generalize N x = NN at *
              obtain ⟨V9, E9⟩ := NN
              go_wp2_with fail
              refine (NX1.out _ HO4.out).mono ?_
              rintro e5 W5 ⟨rfl, hb5⟩
              have HF5 : Hid (FS w base p nb0 [.int .i64 0, .int .i64 x, .int .i64 bi, .int .i64 bu, .int .i64 d] [.int .i64 0, .int .i64 x, .int .i64 bi, .int .i64 bu, .int .i64 d] (.slice ao2 (i + 1) c2) (i + 1) (cT (L ++ [x])) W5) := HF4.out.below hb5
              clear hb5 HF4 HO4 n0 n1 n2 n3 n4 NX1
              obtain ⟨n0, n1, n2, n3, n4⟩ := (HF5.out.bs.tail.first).c5
              obtain ⟨z0, z1, z2, z3, z4⟩ := (HF5.out.bs.tail.first).f5
              have HFs : Hid (FS w base p nb0 [.int .i64 0, .int .i64 x, .int .i64 bi, .int .i64 bu, .int .i64 d] [.int .i64 0, .int .i64 V9, .int .i64 bi, .int .i64 bu, .int .i64 d] (.slice ao2 (i + 1) c2) (i + 1) (cT (L ++ [x])) (W5.setCells nb0 0 [.int .i64 0, .int .i64 V9])) := HF5.out.setN
              simp only [World.setCells, Nat.zero_add] at HFs
              go_upto_region 17 with fail
              refine gen_to (fun V => Hid (FS w base p nb0 [.int .i64 0, .int .i64 x, .int .i64 bi, .int .i64 bu, .int .i64 d] [.int .i64 0, .int .i64 V9, .int .i64 bi, .int .i64 bu, .int .i64 d] (.slice ao2 (i + 1) c2) (i + 1) (cT (L ++ [x])) V)) HFs ?_
              clear HFs HF5 n0 n1 n2 n3 n4 z0 z1 z2 z3 z4
              intro W6 HF6
              obtain ⟨q0, q1, q2, q3, q4⟩ := (HF6.out.bs.first).c5
              by_cases hE9 : E9 = 0
              · subst hE9
                have HA5 : Hid (folF N bey ld k V9 (some x) (L ++ [x]) = (LA, EA)) := by
                  have h := HA4.out
                  rw [if_neg (by simp)] at h
                  exact h
                have HFn : Hid (FS w base W6.heap.size nb0 [.int .i64 0, .int .i64 x, .int .i64 bi, .int .i64 bu, .int .i64 d] [.int .i64 0, .int .i64 V9, .int .i64 bi, .int .i64 bu, .int .i64 d] (.slice ao2 (i + 1) c2) (i + 1) (cT (L ++ [x])) (W6.alloc (.cells ([.int .i64 0, .int .i64 x, .int .i64 bi, .int .i64 bu, .int .i64 d] : List Value).toArray 89))) := HF6.out.newP
                clear HF6
                go_wp2_with fail
                go_roundw
                case rel => exact ⟨i + 1, c2, W6.heap.size, ao2, 0, V9, some x, L ++ [x], hlt, rfl, rfl, rfl, by show _ = _; rw [List.length_append, HLn.out]; rfl, HV1.out rfl, (fun q9 h9 => by cases h9; exact HX.out), by rw [HKK.out]; exact HA5, HFn⟩
                case measure => simp [lenOf]; omega
              · have HE : Hid (([], E9) = (LA, EA)) := by
                  have h := HA4.out
                  rw [if_pos hE9] at h
                  exact h
                obtain ⟨rfl, rfl⟩ := Prod.mk.inj HE.out
                have HB : Hid (Below w.heap.size w W6) := HF6.out.bs.1
                have hE0 : (E9 != 0) = true := by simpa using hE9
                clear HE HA4 HF6
                go_wp2_with fail
                exact bodyPost_ret (v := .tuple #[.slice none 0 0, .int .i64 E9]) (by simp [results, Tryz.results19, go_sem]) rfl ⟨_, rfl, HB.out, World.ownsRow_nil _ _ _ _⟩
        · have hne : (i : Int) = (m : Int) := by omega
          have HE : Hid (([], 14) = (LA, EA)) := by
            have h := HA2.out
            rw [show m - i = 0 by omega, fol_0 hbx] at h
            exact h
          obtain ⟨rfl, rfl⟩ := Prod.mk.inj HE.out
          have HB : Hid (Below w.heap.size w W1) := HF1.out.bs.1
          clear HE HA2 hbx
          go_wp2_with fail
          exact bodyPost_ret (v := .tuple #[.slice none 0 0, .int .i64 14]) (by simp [results, Tryz.results19, go_sem]) rfl ⟨_, rfl, HB.out, World.ownsRow_nil _ _ _ _⟩
      · rw [hbx] at BX
        have HE : Hid ((L, 0) = (LA, EA)) := by
          have h := HA2.out
          rw [fol_bey hbx] at h
          exact h
        obtain ⟨rfl, rfl⟩ := Prod.mk.inj HE.out
        clear HE HA2 hbx
        go_wp2_with fail
        refine (BX.out _ HO.out).mono ?_
        rintro e1 W1 ⟨rfl, hb⟩
        have HF1 : Hid (FS w base p nb0 (ahC bi bu d ah) [.int .i64 0, .int .i64 x, .int .i64 bi, .int .i64 bu, .int .i64 d] (.slice ao i c) i (cT L) W1) := HF.out.below hb
        clear hb HF HO n0 n1 n2 n3 n4 BX
        go_wp2_with fail
        exact bodyPost_ret (v := .tuple #[.slice ao i c, .int .i64 0]) (by simp [results, Tryz.results19, go_sem]) rfl ⟨_, rfl, HF1.out.bs.1, by rw [HLn.out]; exact own_mono HF1.out.own hbase⟩


end Go.Proofs.YtpdmndlpgjjopaaGreatDoor
