import Derived.Test.YtklehbmghjcmaaaGreatDoorSz
import Derived.Test.YtklehbmghjcmaaaGreatDoorS5
open Go.Value renaming int → vi
open Go.IntKind renaming i64 → ki
open List renaming setIfInBounds_toArray → zb, set_cons_zero → zc, set_cons_succ → zd
open Go.Act renaming put → za
open Go.Ending renaming returned → zr
set_option maxRecDepth 100000
set_option maxHeartbeats 16000000
set_option linter.unusedVariables false
namespace Go.Proofs.YtklehbmghjcmaaaGreatDoor
open Go.RowKit Sr
attribute [local go_sem] Oper.semAt_some
def Zm.chg (a b : Int) (L : List TrR) : List TrR := (L.drop (Zm.cntLe a (L.map (·.at_)))).takeWhile (fun x => decide (x.at_ ≤ b))
theorem Zm.tw_get {p : TrR → Bool} : ∀ {D : List TrR} {j : Nat} {x : TrR}, D[j]? = some x → j < (D.takeWhile p).length → (D.takeWhile p).getD j zTr = x
 | [], j, x, h, _ => by simp at h
 | y :: D, j, x, h, hl => by
  by_cases hp : p y = true
  ·rw [List.takeWhile_cons_of_pos hp] at hl ⊢
   cases j with
   | zero => simpa using h
   | succ j => rw [List.getD_cons_succ]; exact Zm.tw_get (by simpa using h) (by simpa using hl)
  ·rw [List.takeWhile_cons_of_neg hp] at hl; simp at hl
theorem Zm.tw_all {p : TrR → Bool} : ∀ {D : List TrR}, (∀ (j : Nat) (x : TrR), D[j]? = some x → p x = true) → (D.takeWhile p).length = D.length
 | [], _ => rfl
 | y :: D, h => by
  rw [List.takeWhile_cons_of_pos (h 0 y rfl), List.length_cons, List.length_cons, Zm.tw_all (fun j x hx => h (j + 1) x (by simpa using hx))]
theorem Zm.tw_at {p : TrR → Bool} : ∀ {D : List TrR} {i : Nat} {x : TrR}, (∀ (j : Nat) (y : TrR), j < i → D[j]? = some y → p y = true) → D[i]? = some x → p x = false → (D.takeWhile p).length = i
 | [], i, x, _, h, _ => by simp at h
 | y :: D, 0, x, _, h, hp => by
  obtain rfl : y = x := by simpa using h
  rw [List.takeWhile_cons_of_neg (by rw [hp]; decide)]; rfl
 | y :: D, i + 1, x, h, hx, hp => by
  rw [List.takeWhile_cons_of_pos (h 0 y (Nat.succ_pos _) rfl), List.length_cons, Zm.tw_at (i := i) (x := x) (fun j z hj hz => h (j + 1) z (Nat.succ_lt_succ hj) (by simpa using hz)) (by simpa using hx) hp]
theorem Zm.tw_lt {p : TrR → Bool} : ∀ {D : List TrR} {i : Nat} {x : TrR}, (∀ (j : Nat) (y : TrR), j < i → D[j]? = some y → p y = true) → D[i]? = some x → p x = true → i < (D.takeWhile p).length
 | [], i, x, _, h, _ => by simp at h
 | y :: D, 0, x, _, h, hp => by
  obtain rfl : y = x := by simpa using h
  rw [List.takeWhile_cons_of_pos hp]; simp
 | y :: D, i + 1, x, h, hx, hp => by
  rw [List.takeWhile_cons_of_pos (h 0 y (Nat.succ_pos _) rfl), List.length_cons]
  exact Nat.succ_lt_succ (Zm.tw_lt (i := i) (x := x) (fun j z hj hz => h (j + 1) z (Nat.succ_lt_succ hj) (by simpa using hz)) (by simpa using hx) hp)
structure ChS (W : World) (T : List Value) (bt bf bo : Nat) (a b : Int) (Ok : World → Prop) (S : List Nat) (V : World) : Prop where
 xt : Bx V bt T
 xf : Bx V bf [vi ki a]
 xo : Bx V bo [vi ki b]
 okS : OkS S Ok
 ok : Ok V
 slt : ∀ k ∈ S, k < W.heap.size
 blt : bt < W.heap.size ∧ bf < W.heap.size ∧ bo < W.heap.size
 wsz : W.heap.size ≤ V.heap.size
theorem ChS.below {W : World} {T : List Value} {bt bf bo : Nat} {a b : Int} {Ok : World → Prop} {S : List Nat} {V V' : World} (h : ChS W T bt bf bo a b Ok S V) (hb : Below V.heap.size V V') : ChS W T bt bf bo a b Ok S V' :=
 ⟨h.xt.below hb, h.xf.below hb, h.xo.below hb, h.okS, h.okS.below h.ok hb, h.slt, h.blt, Nat.le_trans h.wsz hb.size⟩
theorem ChS.drew {W : World} {T : List Value} {bt bf bo : Nat} {a b : Int} {Ok : World → Prop} {S : List Nat} {V : World} (h : ChS W T bt bf bo a b Ok S V) : ChS W T bt bf bo a b Ok S V.drew :=
 ⟨h.xt, h.xf, h.xo, h.okS, h.okS.drew _ h.ok, h.slt, h.blt, h.wsz⟩
theorem ChS.turns {W : World} {T : List Value} {bt bf bo : Nat} {a b : Int} {Ok : World → Prop} {S : List Nat} {M : List Nat} {V V' : World} (h : ChS W T bt bf bo a b Ok S V) (ht : Turns M V V') (hM : ∀ k ∈ bt :: bf :: bo :: S, k ∉ M) : ChS W T bt bf bo a b Ok S V' :=
 ⟨bx_turns h.xt ht (hM _ (by simp)), bx_turns h.xf ht (hM _ (by simp)), bx_turns h.xo ht (hM _ (by simp)), h.okS, h.okS.turns h.ok ht (fun k hk => hM k (by simp [hk])), h.slt, h.blt, Nat.le_trans h.wsz ht.size⟩
structure ChB (W : World) (T : List Value) (bt bf bo : Nat) (a b : Int) (Ok : World → Prop) (S : List Nat) (V : World) : Prop where
 cs : ChS W T bt bf bo a b Ok S V
 bel : Below W.heap.size W V
theorem ChB.below {W : World} {T : List Value} {bt bf bo : Nat} {a b : Int} {Ok : World → Prop} {S : List Nat} {V V' : World} (h : ChB W T bt bf bo a b Ok S V) (hb : Below V.heap.size V V') : ChB W T bt bf bo a b Ok S V' := ⟨h.cs.below hb, h.bel.trans (hb.mono h.bel.size)⟩
theorem ChB.drew {W : World} {T : List Value} {bt bf bo : Nat} {a b : Int} {Ok : World → Prop} {S : List Nat} {V : World} (h : ChB W T bt bf bo a b Ok S V) : ChB W T bt bf bo a b Ok S V.drew := ⟨h.cs.drew, h.bel.drew⟩
theorem exec_slice {P : Program} {ρ : Operand → Value} {o : Oper} {w : World} {ty : TypeId} {x y : Operand} {sv lo v : Value} (ho : o.op = .slice ty x (some y) none none) (hx : ρ x = sv) (hy : ρ y = lo) (h : (Instr.sliceAt ty sv (some lo) none none).run P w = .ok v w) : (execOp ρ o).run P w = .ok (.value v) w := by
 simp [execOp, ho, hx, hy, h]
theorem run_slT (ao : Option Addr) (n c C : Nat) (hC : C ≤ n) (w : World) : (Instr.sliceAt 24 (.slice ao n c) (some (vi ki (C : Int))) none none).run Tryz.prog w = .ok (.slice (if c = C then ao else ao.map (·.add (C * 4))) (n - C) (c - C)) w := by
 have hs : (sizeOf 23).run Tryz.prog w = .ok 4 w := by kernel_rfl
 have hi : ((C : Int)).toNat = C := by simp
 have hb : (Instr.sliceBound (vi ki (C : Int)) n .sliceB).run Tryz.prog w = .ok C w := by
  simp [Instr.sliceBound, asIntOf, hC]
 simp [Instr.sliceAt, Instr.slice, run_underlying Tryz.underlying24, Instr.sliceBounds, hb, hs, Result.andThen]
theorem TrAt.drop {W : World} {ao : Option Addr} {n c C : Nat} {L : List TrR} (h : TrAt W (.slice ao n c) L) (hn : n ≤ c) (hC : C ≤ n) : TrAt W (.slice (if c = C then ao else ao.map (·.add (C * 4))) (n - C) (c - C)) (L.drop C) := by
 obtain ⟨⟨ao1, c1, h1⟩, h2, h3⟩ := h
 simp only [Value.slice.injEq] at h1
 obtain ⟨rfl, rfl, rfl⟩ := h1
 refine ⟨⟨_, _, by rw [List.length_drop]⟩, by rw [List.length_drop]; omega, ?_⟩
 by_cases hCn : C = L.length
 ·exact .inl (by rw [hCn, List.drop_length])
 ·rw [if_neg (show ¬ c = C by omega)]
  rcases h3 with rfl | ⟨g, o, c', e, hg, hc⟩
  ·simp at hC; subst hC; exact absurd rfl hCn
  ·simp only [Value.slice.injEq] at e
   obtain ⟨rfl, -, rfl⟩ := e
   refine .inr ⟨g, o + C * 4, c - C, by rw [List.length_drop]; simp [Addr.add], hg, fun j u hj => ?_⟩
   have hsp : trCs L = trCs (L.take C) ++ trCs (L.drop C) := by rw [← trCs_app, List.take_append_drop]
   have hl : (trCs (L.take C)).length = C * 4 := by rw [trCs_len, List.length_take, Nat.min_eq_left hC]
   have := hc (C * 4 + j) u (by rw [hsp, List.getElem?_append_right (by omega), hl, Nat.add_sub_cancel_left]; exact hj)
   rwa [← Nat.add_assoc] at this
theorem chs_no (T : List Value) (hT : T.length = 25) (S : List Nat) (Ok : World → Prop) (hOk : OkS S Ok) (a b : Int) (ao : Option Addr) (n c : Nat) (hnc : n ≤ c) (L : List TrR) (h5 : T[5]? = some (.slice ao n c)) (h6 : T[6]? = some (.bool false)) (hr : Zm.Rises (L.map (·.at_))) (h4 : L.length ≤ 4096) (hn : L.length = n)
  (TR : ∀ W, Ok W → TrAt W (.slice ao n c) L)
  (w : World) (m : Nat) (bt bf bo : Nat) (X1 : Bx w bt T) (X2 : Bx w bf [vi ki a]) (X3 : Bx w bo [vi ki b]) (O : Ok w) :
  SeqB m Tryz.prog 205 #[.pointer (some ⟨bt, 0, none⟩), .pointer (some ⟨bf, 0, none⟩), .pointer (some ⟨bo, 0, none⟩)] (bt :: bf :: bo :: S) (fun k => trV ((Zm.chg a b L).getD k zTr)) (Zm.chg a b L).length w := by
 intro l M J W hb hM hSM hJ hY h0
 have HS0 : Hid (ChB W T bt bf bo a b Ok S W) :=
  ⟨⟨X1.below hb, X2.below hb, X3.below hb, hOk, hOk.below O hb, fun k hk => Nat.lt_of_lt_of_le (hOk.lt w O k hk) hb.size, ⟨Nat.lt_of_lt_of_le X1.1 hb.size, Nat.lt_of_lt_of_le X2.1 hb.size, Nat.lt_of_lt_of_le X3.1 hb.size⟩, Nat.le_refl _⟩, Below.refl _ _⟩
 have BH : Hid (∀ V : World, Ok V → Calls Tryz.prog 127 #[.agg T.toArray, vi ki a] V fun r w' => r = zr (vi ki ((Zm.cntLe a (L.map (·.at_)) : Nat) : Int)) ∧ Below V.heap.size V w') := fun V hV => behind_any T hT L _ h5 a hr h4 V (TR V hV)
 have hC0 : Zm.cntLe a (L.map (·.at_)) ≤ n := by have := Zm.cntLe_le a (L.map (·.at_)); rw [List.length_map, hn] at this; exact this
 unfold Zm.chg at hY ⊢
 generalize Zm.cntLe a (L.map (·.at_)) = C at *
 have SL : Hid (∀ V : World, (Instr.sliceAt 24 (.slice ao n c) (some (vi ki (C : Int))) none none).run Tryz.prog V = .ok (.slice (if c = C then ao else ao.map (·.add (C * 4))) (n - C) (c - C)) V) := fun V => run_slT ao n c C hC0 V
 have TD : Hid (∀ V, Ok V → TrAt V (.slice (if c = C then ao else ao.map (·.add (C * 4))) (n - C) (c - C)) (L.drop C)) := fun V hV => (TR V hV).drop hnc hC0
 have hlen : (L.drop C).length = n - C := by rw [List.length_drop, hn]
 have hm4 : n - C ≤ 4096 := by omega
 generalize L.drop C = D at *
 generalize (if c = C then ao else ao.map (·.add (C * 4))) = a5 at *
 obtain ⟨m5, hm5⟩ : ∃ m5, n - C = m5 := ⟨_, rfl⟩
 rw [hm5] at SL TD hlen hm4
 generalize c - C = c5 at *
 refine callsIn_wide.2 ?_
 go_enter Tryz.func205, Tryz.ntmps205
 go_upto_region 0 with fail
 go_cut [15, 16, 17] (fun v15 v16 v17 wx => v15 = .slice a5 m5 c5 ∧ v16 = vi ki (m5 : Int) ∧ v17 = vi ki 0 ∧ Hid (ChB W T bt bf bo a b Ok S wx))
 case first =>
  refine wp_region_held_drew (S := ChB W T bt bf bo a b Ok S) (by kernel_rfl) HS0.out.drew (fun hHeld => ?_)
  refine tks 0 ⟨some 10, _, _, _, _, none⟩ rfl ?_
  simp only [za, zb, zc, zd]
  refine tk (v := ?_) 1 ⟨some 11, _, _, _, _, none⟩ rfl ?_ ?_
  case refine_2 => (intro w9 hSw; have l1 := hSw.cs.xf.c 0 rfl; have l2 := hSw.cs.xt.c 5 h5; clear hSw; go_simp; try with_reducible rfl)
  simp only [za, zb, zc, zd]
  refine wpAnyH_take (i := 2) (v := .agg T.toArray) (oi := ⟨some 12, _, _, _, _, none⟩) rfl (by kernel_rfl) (by kernel_rfl) (by kernel_rfl) (fun _ _ _ h => h) (Or.inl ⟨by kernel_rfl, ?_⟩) (by assumption) ?_
  case refine_1 => (intro w9 hSw; exact exec_row rfl rfl hSw.cs.xt.all Tryz.underlying44 rfl (by rw [hT]; kernel_rfl))
  simp only [za, zb, zc, zd]
  refine tk (v := ?_) 3 ⟨some 13, _, _, _, _, none⟩ rfl ?_ ?_
  case refine_2 => (intro w9 hSw; have l1 := hSw.cs.xf.c 0 rfl; have l2 := hSw.cs.xt.c 5 h5; clear hSw; go_simp; try with_reducible rfl)
  simp only [za, zb, zc, zd]
  refine tks 7 ⟨some 17, _, _, _, _, none⟩ rfl ?_
  simp only [za, zb, zc, zd]
  refine rd 4 ⟨some 14, _, _, _, _, none⟩ rfl (fun K hK => ?_)
  go_simp
  refine (BH.out _ hHeld.cs.ok).mono ?_
  rintro e v1 ⟨rfl, hb1⟩
  refine hK.out _ _ (hHeld.below hb1) (fun hHeld => ?_)
  clear hK K hb1
  refine wpAnyH_take (i := 5) (v := .slice a5 m5 c5) (oi := ⟨some 15, _, _, _, _, none⟩) rfl (by kernel_rfl) (by kernel_rfl) (by kernel_rfl) (fun _ _ _ h => h) (Or.inl ⟨by kernel_rfl, ?_⟩) (by assumption) ?_
  case refine_1 => (intro w9 hSw; exact exec_slice rfl rfl rfl (SL.out w9))
  simp only [za, zb, zc, zd]
  refine tks 6 ⟨some 16, _, _, _, _, none⟩ rfl ?_
  simp only [za, zb, zc, zd]
  refine wpAnyH_done (by kernel_rfl) ?_ _
  go_wp2_with fail
  go_meet
  case rel => exact ⟨rfl, rfl, rfl, hHeld⟩
 case rest =>
  obtain ⟨rfl, rfl, rfl, HS1⟩ := hcut
  have J1 : J 0 wc := hJ _ _ _ h0 HS1.out.bel
  have AL : Hid (∀ j x, D[j]? = some x → x.at_ ≤ b → j < (D.takeWhile (fun x => decide (x.at_ ≤ b))).length → (D.takeWhile (fun x => decide (x.at_ ≤ b))).getD j zTr = x) := fun j x hx _ hj => Zm.tw_get hx hj
  go_wp2_with fail
  go_loopw [17] (fun iv wr => ∃ i : Nat, iv = vi ki (i : Int) ∧ i ≤ m5 ∧ Hid (ChS W T bt bf bo a b Ok S wr ∧ J i wr ∧ ∀ j x, j < i → D[j]? = some x → x.at_ ≤ b)) (fun iv _ => m5 - (intOf iv).toNat)
  case atStart => exact ⟨0, rfl, Nat.zero_le _, HS1.out.cs, J1, fun j x hj => absurd hj (Nat.not_lt_zero _)⟩
  case round =>
   obtain ⟨i, rfl, hi, HR⟩ := hrel
   by_cases hlt : i < m5
   ·obtain ⟨x, hx⟩ : ∃ x, D[i]? = some x := ⟨_, List.getElem?_eq_getElem (by omega)⟩
    obtain ⟨g, o, c', hsv, hrg⟩ := (TD.out wr HR.out.1.ok).row hx
    rw [hlen] at hsv
    simp only [Value.slice.injEq, true_and] at hsv
    obtain ⟨rfl, rfl⟩ := hsv
    have HRG : Hid (wr.rangeAt g (o + i * 4) [vi ki x.at_, vi ki x.off, .bool x.dst, .string x.ab]) := hrg
    clear hrg
    have hlt' : (i : Int) < (m5 : Int) := by omega
    have hn5 := HR.out.1
    have hba : Below wr.heap.size wr (wr.alloc (.cells #[vi ki x.at_, vi ki x.off, .bool x.dst, .string x.ab] 23)) := (Below.refl _ _).alloc (Nat.le_refl _) _
    have HZ : Hid (ChS W T bt bf bo a b Ok S (wr.alloc (.cells #[vi ki x.at_, vi ki x.off, .bool x.dst, .string x.ab] 23)) ∧ J i (wr.alloc (.cells #[vi ki x.at_, vi ki x.off, .bool x.dst, .string x.ab] 23)) ∧ Bx (wr.alloc (.cells #[vi ki x.at_, vi ki x.off, .bool x.dst, .string x.ab] 23)) wr.heap.size [vi ki x.at_, vi ki x.off, .bool x.dst, .string x.ab]) := ⟨hn5.below hba, hJ _ _ _ HR.out.2.1 (hba.mono hn5.wsz), Bx.new wr [vi ki x.at_, vi ki x.off, .bool x.dst, .string x.ab] _⟩
    have hwr := hn5.wsz
    have HP : Hid (∀ j x, j < i → D[j]? = some x → x.at_ ≤ b) := HR.out.2.2
    clear hn5 HR hba
    go_upto_region 3 with (first | (refine wpList_load_mid rfl 23 _ rfl g (o + i * 4) rfl [vi ki x.at_, vi ki x.off, .bool x.dst, .string x.ab] _ HRG.out Tryz.underlying23 rfl (by kernel_rfl) ?_) | fail)
    refine gen_code (fun V => ChS W T bt bf bo a b Ok S V ∧ J i V ∧ Bx V wr.heap.size [vi ki x.at_, vi ki x.off, .bool x.dst, .string x.ab]) HZ.out ?_
    clear HZ HRG
    rintro V ⟨C1, J2, B1⟩
    have o0 := C1.xo.c 0 rfl
    have x0 := B1.c 0 rfl
    have x1 := B1.c 1 rfl
    have x2 := B1.c 2 rfl
    have x3 := B1.c 3 rfl
    by_cases hgt : b < x.at_
    ·have hN : (D.takeWhile (fun x => decide (x.at_ ≤ b))).length = i := Zm.tw_at (fun j y hj hy => decide_eq_true (HP.out j y hj hy)) hx (decide_eq_false (by omega))
     have HJ2 : Hid (J (D.takeWhile (fun x => decide (x.at_ ≤ b))).length V) := by rw [hN]; exact J2
     clear hY C1 B1 J2 AL
     refine (wpIn_wide (n := 10)).1 ?_
     gi_wp2
     refine ⟨fun _ h => (by cases h), ?_⟩
     gi_wp2
     go_wp2_with fail
     refine bodyPost_ret (results_none rfl _ _ _) rfl ?_
     exact ⟨⟨_, rfl⟩, HJ2.out⟩
    ·have hle : x.at_ ≤ b := by omega
     have hiN := Zm.tw_lt (fun j y hj hy => decide_eq_true (HP.out j y hj hy)) hx (decide_eq_true hle)
     have hY1 := hY i V hiN C1.wsz J2
     rw [Zm.tw_get hx hiN] at hY1
     obtain ⟨fn, tmps, assign, body, hy, hR⟩ := YieldAt_wide (m' := 10 - 1) hY1
     simp only [trV] at hy
     have HR : Hid (RoundIn Fence.wide (10 - 1) Tryz.prog l fn tmps assign body V fun e W' => e = zr (.bool true) ∧ J (i + 1) W' ∧ Turns M V W') := hR
     clear hR hY1 J2 B1
     refine (wpIn_wide (n := 10)).1 ?_
     gi_wp2
     refine HR.out.mono ?_
     rintro e' V7 ⟨rfl, hJ7, ht7⟩
     have C7 := C1.turns ht7 hSM
     clear HR hy C1 o0 x0 x1 x2 x3
     gi_wp2
     go_wp2_with fail
     exact ⟨⟨i + 1, by simp, by omega, C7, hJ7, fun j y hj hy => by
      by_cases hji : j = i
      ·subst hji; rw [hx] at hy; cases hy; exact hle
      ·exact HP.out j y (by omega) hy⟩, by simp [intOf]; omega⟩
   ·obtain rfl : i = m5 := by omega
    have f6 : wr.cell? ⟨bt, 6, none⟩ = some (.bool false) := HR.out.1.xt.c 6 h6
    have hN : (D.takeWhile (fun x => decide (x.at_ ≤ b))).length = i := by
     rw [Zm.tw_all (fun j x hx => decide_eq_true (HR.out.2.2 j x (by have := (List.getElem?_eq_some_iff.1 hx).1; omega) hx))]; exact hlen
    go_wp2_with fail
    refine bodyPost_ret (results_none rfl _ _ _) rfl ?_
    exact ⟨⟨_, rfl⟩, by rw [hN]; exact HR.out.2.1⟩
attribute [local go_sem] Oper.semAt_some
theorem below_drew_of {V v : World} (h : Below V.drew.heap.size V.drew v) : Below V.heap.size V v := ⟨h.os, h.tape, h.output, h.size, h.block⟩
def grV (g : Zm.Gr) : Value := .agg #[vi ki g.n, vi ki g.f, vi ki g.l]
def gz : Value := .agg #[vi ki 0, vi ki 0, vi ki 0]
def mpF (gl gs gm : Zm.Gr) : Int → Value := fun k => if k = 0 then grV gl else if k = 1 then grV gs else if k = 2 then grV gm else gz
theorem mpF_0 (gl gs gm : Zm.Gr) : mpF gl gs gm 0 = grV gl := rfl
theorem mpF_1 (gl gs gm : Zm.Gr) : mpF gl gs gm 1 = grV gs := rfl
theorem mpF_2 (gl gs gm : Zm.Gr) : mpF gl gs gm 2 = grV gm := rfl
theorem mpF_s0 (gl gs gm g : Zm.Gr) : (fun k => if k = 0 then grV g else mpF gl gs gm k) = mpF g gs gm := by
 funext k; unfold mpF; by_cases h : k = 0
 ·simp [h]
 ·simp [h]
theorem mpF_s1 (gl gs gm g : Zm.Gr) : (fun k => if k = 1 then grV g else mpF gl gs gm k) = mpF gl g gm := by
 funext k; unfold mpF; by_cases h : k = 1
 ·simp [h]
 ·simp [h]
theorem mpF_s2 (gl gs gm g : Zm.Gr) : (fun k => if k = 2 then grV g else mpF gl gs gm k) = mpF gl gs g := by
 funext k; unfold mpF; by_cases h : k = 2
 ·simp [h]
 ·simp [h]
structure HrS (w : World) (x : Int) (mb gb : Nat) (gl gs gm : Zm.Gr) (V : World) : Prop where
 mz : MapZ V mb gz (mpF gl gs gm)
 xl : Bx V (w.heap.size + 1) [vi ki x]
 xg : Bx V gb [.map (some mb)]
 bel : Below w.heap.size w V
 hmb : w.heap.size + 1 < mb
 hgb : mb < gb
theorem HrS.below {w : World} {x : Int} {mb gb : Nat} {gl gs gm : Zm.Gr} {V V' : World} (h : HrS w x mb gb gl gs gm V) (hb : Below V.heap.size V V') : HrS w x mb gb gl gs gm V' :=
 ⟨h.mz.same (hb.block mb h.mz.lt), h.xl.below hb, h.xg.below hb, h.bel.trans (hb.mono h.bel.size), h.hmb, h.hgb⟩
theorem HrS.mv {w : World} {x : Int} {mb gb : Nat} {gl gs gm : Zm.Gr} {n : Nat} {V V' : World} (h : HrS w x mb gb gl gs gm V) (hn : gb < n) (hb : Below n V V') : HrS w x mb gb gl gs gm V' :=
 have h1 := h.hmb
 have h2 := h.hgb
 ⟨h.mz.same (hb.block mb (by omega)), bx_mv h.xl (by omega) hb, bx_mv h.xg hn hb, h.bel.trans (hb.mono (by omega)), h.hmb, h.hgb⟩
structure HrX (w : World) (x : Int) (mb gb : Nat) (gl gs gm : Zm.Gr) (bx : Nat) (s : Zm.St) (V : World) : Prop where
 hs : HrS w x mb gb gl gs gm V
 xs : Bx V bx [vi ki s.a, vi ki s.b, vi ki s.o]
theorem HrX.below {w : World} {x : Int} {mb gb : Nat} {gl gs gm : Zm.Gr} {bx : Nat} {s : Zm.St} {V V' : World} (h : HrX w x mb gb gl gs gm bx s V) (hb : Below V.heap.size V V') : HrX w x mb gb gl gs gm bx s V' := ⟨h.hs.below hb, h.xs.below hb⟩
theorem HrX.drew {w : World} {x : Int} {mb gb : Nat} {gl gs gm : Zm.Gr} {bx : Nat} {s : Zm.St} {V : World} (h : HrX w x mb gb gl gs gm bx s V) : HrX w x mb gb gl gs gm bx s V.drew := ⟨⟨h.hs.mz, h.hs.xl, h.hs.xg, h.hs.bel.drew, h.hs.hmb, h.hs.hgb⟩, h.xs⟩
theorem hear_any (T : List Value) (hT : T.length = 25) (S : List Nat) (Ok : World → Prop) (hOk : OkS S Ok) (x : Int) (x1 : -1000000000000000 ≤ x) (x2 : x ≤ 1000000000000000) (sts : List Zm.St) (hsl : sts.length ≤ 1000000) (hso : ∀ s ∈ sts, -57600 ≤ s.o ∧ s.o ≤ 57600)
  (SQ : Hid (∀ (W : World) (b n : Nat), 5 ≤ n → Ok W → Bx W (b + 1) [vi ki (x - 57600)] → Bx W b T → Bx W (b + 2) [vi ki (x + 57600 + 1)] → SeqB n Tryz.prog 180 #[.pointer (some ⟨b + 1, 0, none⟩), .pointer (some ⟨b, 0, none⟩), .pointer (some ⟨b + 2, 0, none⟩)] ((b + 1) :: b :: (b + 2) :: S) (fun k => .agg (stC (sts.getD k ⟨0, 0, 0⟩)).toArray) sts.length W))
  (w : World) (O : Ok w) :
  Calls Tryz.prog 88 #[.agg T.toArray, vi ki x] w fun r w' => ∃ mb gm, r = zr (.map (some mb)) ∧ MapZ w' mb gz (mpF (Zm.pGo x sts (⟨0, 0, 0⟩, ⟨0, 0, 0⟩)).1 (Zm.pGo x sts (⟨0, 0, 0⟩, ⟨0, 0, 0⟩)).2 gm) ∧ Below w.heap.size w w' := by
 refine (callsIn_wide (n := 10)).1 ?_
 refine callsIn_of_wp_marks Tryz.func88 rfl trivial ?_ rfl
 simp only [Tryz.ntmps88, List.size_toArray, List.length_cons, List.length_nil, Nat.reduceAdd, Nat.reduceSub, Array.replicate_succ, Array.replicate_zero, List.push_toArray, List.append_toArray, List.nil_append, List.cons_append]
 generalize hUA : T.toArray = UA at *
 refine wpIn_mono (Q := np _) ?_ np_out
 refine wpIn_wide.2 ?_
 have hmm := @run_makeMap Tryz.prog
 go_upto_region 2 with fail
 have HA : Hid (HrS w x (w.heap.size + 1 + 1) (w.heap.size + 1 + 1 + 1) ⟨0, 0, 0⟩ ⟨0, 0, 0⟩ ⟨0, 0, 0⟩ ((((w.alloc (.cells UA 44)).alloc (.cells #[vi ki x] 2)).alloc (.map #[] 0)).alloc (.cells #[.map (some (w.heap.size + 1 + 1))] 131)) ∧ Bx ((((w.alloc (.cells UA 44)).alloc (.cells #[vi ki x] 2)).alloc (.map #[] 0)).alloc (.cells #[.map (some (w.heap.size + 1 + 1))] 131)) w.heap.size T ∧ Ok ((((w.alloc (.cells UA 44)).alloc (.cells #[vi ki x] 2)).alloc (.map #[] 0)).alloc (.cells #[.map (some (w.heap.size + 1 + 1))] 131))) := by
  subst hUA
  have b1 : Below w.heap.size w ((((w.alloc (.cells T.toArray 44)).alloc (.cells #[vi ki x] 2)).alloc (.map #[] 0)).alloc (.cells #[.map (some (w.heap.size + 1 + 1))] 131)) := ((((Below.refl _ w).alloc (Nat.le_refl _) _).alloc (by simp) _).alloc (by simp; omega) _).alloc (by simp; omega) _
  refine ⟨⟨?_, ?_, ?_, b1, by omega, by omega⟩, ?_, hOk.below O b1⟩
  ·have := MapZ.made ((w.alloc (.cells T.toArray 44)).alloc (.cells #[vi ki x] 2)) gz
   have h2 := this.same (W' := ((((w.alloc (.cells T.toArray 44)).alloc (.cells #[vi ki x] 2)).alloc (.map #[] 0)).alloc (.cells #[.map (some (w.heap.size + 1 + 1))] 131))) (Below.heap_alloc _ _ _ (by simp))
   rw [show mpF ⟨0, 0, 0⟩ ⟨0, 0, 0⟩ ⟨0, 0, 0⟩ = fun _ => gz from by funext k; unfold mpF grV gz; simp]
   simpa using h2
  ·exact ((Bx.newAt (w.alloc (.cells T.toArray 44)) [vi ki x] 2 _ (by simp)).alloc _).alloc _
  ·exact Bx.newAt _ [.map (some (w.heap.size + 1 + 1))] _ _ (by simp)
  ·exact (((Bx.new w T _).alloc _).alloc _).alloc _
 refine gen_code (fun V => HrS w x (w.heap.size + 1 + 1) (w.heap.size + 1 + 1 + 1) ⟨0, 0, 0⟩ ⟨0, 0, 0⟩ ⟨0, 0, 0⟩ V ∧ Bx V w.heap.size T ∧ Ok V) HA.out ?_
 clear HA
 rintro V0 ⟨H0', XT', O0⟩
 have H0 : Hid (HrS w x (w.heap.size + 1 + 1) (w.heap.size + 1 + 1 + 1) ⟨0, 0, 0⟩ ⟨0, 0, 0⟩ ⟨0, 0, 0⟩ V0) := H0'
 have XT : Hid (Bx V0 w.heap.size T) := XT'
 have c1 := H0'.xl.c 0 rfl
 clear H0' XT'
 go_wp2_with (first | (refine wpList_load_mid rfl 44 _ rfl w.heap.size 0 rfl T _ XT.out.all Tryz.underlying44 rfl (by rw [hT]; kernel_rfl) ?_; rw [hUA]) | fail)
 have SM := strs_mk T hT (x - 57600) (x + 57600 + 1) V0
 rw [hUA] at SM
 refine SM.mono ?_
 rintro r' w5 ⟨rfl, rfl⟩
 clear c1 SM
 have HA : Hid (HrS w x (w.heap.size + 1 + 1) (w.heap.size + 1 + 1 + 1) ⟨0, 0, 0⟩ ⟨0, 0, 0⟩ ⟨0, 0, 0⟩ (((V0.alloc (.cells UA 44)).alloc (.cells #[vi ki (x - 57600)] 2)).alloc (.cells #[vi ki (x + 57600 + 1)] 2)) ∧ Ok (((V0.alloc (.cells UA 44)).alloc (.cells #[vi ki (x - 57600)] 2)).alloc (.cells #[vi ki (x + 57600 + 1)] 2)) ∧ Bx (((V0.alloc (.cells UA 44)).alloc (.cells #[vi ki (x - 57600)] 2)).alloc (.cells #[vi ki (x + 57600 + 1)] 2)) V0.heap.size T ∧ Bx (((V0.alloc (.cells UA 44)).alloc (.cells #[vi ki (x - 57600)] 2)).alloc (.cells #[vi ki (x + 57600 + 1)] 2)) (V0.heap.size + 1) [vi ki (x - 57600)] ∧ Bx (((V0.alloc (.cells UA 44)).alloc (.cells #[vi ki (x - 57600)] 2)).alloc (.cells #[vi ki (x + 57600 + 1)] 2)) (V0.heap.size + 2) [vi ki (x + 57600 + 1)]) := by
  subst hUA
  have b1 : Below V0.heap.size V0 (((V0.alloc (.cells T.toArray 44)).alloc (.cells #[vi ki (x - 57600)] 2)).alloc (.cells #[vi ki (x + 57600 + 1)] 2)) := (((Below.refl _ V0).alloc (Nat.le_refl _) _).alloc (by simp) _).alloc (by simp; omega) _
  exact ⟨H0.out.below b1, hOk.below O0 b1, ((Bx.new V0 T _).alloc _).alloc _, (Bx.newAt (V0.alloc (.cells T.toArray 44)) [vi ki (x - 57600)] 2 _ (by simp)).alloc _, Bx.newAt ((V0.alloc (.cells T.toArray 44)).alloc (.cells #[vi ki (x - 57600)] 2)) [vi ki (x + 57600 + 1)] 2 _ (by simp)⟩
 have hgV := H0.out.xg.1
 go_wp2_with fail
 refine gen_code (fun V => HrS w x (w.heap.size + 1 + 1) (w.heap.size + 1 + 1 + 1) ⟨0, 0, 0⟩ ⟨0, 0, 0⟩ ⟨0, 0, 0⟩ V ∧ Ok V ∧ Bx V V0.heap.size T ∧ Bx V (V0.heap.size + 1) [vi ki (x - 57600)] ∧ Bx V (V0.heap.size + 2) [vi ki (x + 57600 + 1)]) HA.out ?_
 clear HA H0 XT O0
 rintro W5 ⟨H5, O5, Y1, Y2, Y3⟩
 have hb5 := Y3.1
 refine wpIn_wide.1 (rangeB (n := 10) (by decide) (gf := 180) (lb := #[.pointer (some ⟨V0.heap.size + 1, 0, none⟩), .pointer (some ⟨V0.heap.size, 0, none⟩), .pointer (some ⟨V0.heap.size + 2, 0, none⟩)]) rfl (enters_of Tryz.func180 (by kernel_rfl) rfl)
  (SQ.out W5 V0.heap.size _ (by decide) O5 Y2 Y1 Y3) [w.heap.size + 1 + 1]
  (by intro k hk; simp at hk; omega)
  (by intro k hk; simp only [List.mem_cons] at hk; rcases hk with rfl | rfl | rfl | hk; omega; omega; omega; exact hOk.lt _ O5 k hk)
  ?hSM rfl
  (fun k V => ∃ gl gs gm, HrS w x (w.heap.size + 1 + 1) (w.heap.size + 1 + 1 + 1) gl gs gm V ∧ Zm.pGo x (sts.drop k) (gl, gs) = Zm.pGo x sts (⟨0, 0, 0⟩, ⟨0, 0, 0⟩) ∧ (0 ≤ gl.n ∧ gl.n ≤ k) ∧ (0 ≤ gs.n ∧ gs.n ≤ k) ∧ (0 ≤ gm.n ∧ gm.n ≤ k))
  ?hI ⟨_, _, _, H5, rfl, ⟨Int.le_refl _, Int.le_refl _⟩, ⟨Int.le_refl _, Int.le_refl _⟩, ⟨Int.le_refl _, Int.le_refl _⟩⟩
  (fun k a' V => ∃ bx, w.heap.size + 1 + 1 + 1 < bx ∧ Bx V bx [vi ki (sts.getD k ⟨0, 0, 0⟩).a, vi ki (sts.getD k ⟨0, 0, 0⟩).b, vi ki (sts.getD k ⟨0, 0, 0⟩).o] ∧ a' = { tmps := #[.agg UA, vi ki x, .pointer (some ⟨w.heap.size, 0, none⟩), .pointer (some ⟨w.heap.size + 1, 0, none⟩), .map none, .pointer (some ⟨w.heap.size + 1 + 1 + 1, 0, none⟩), .pointer (some ⟨bx, 0, none⟩), undef, undef, undef, .map (some (w.heap.size + 1 + 1)), .agg UA, vi ki x, vi ki (x - 57600), vi ki x, vi ki (x + 57600), vi ki (x + 57600 + 1), .func (.func 180) #[] #[.pointer (some ⟨V0.heap.size + 1, 0, none⟩), .pointer (some ⟨V0.heap.size, 0, none⟩), .pointer (some ⟨V0.heap.size + 2, 0, none⟩)], .agg #[vi ki (sts.getD k ⟨0, 0, 0⟩).a, vi ki (sts.getD k ⟨0, 0, 0⟩).b, vi ki (sts.getD k ⟨0, 0, 0⟩).o], undef, undef, undef, undef, undef, undef, undef, undef, undef, undef, undef, undef, undef, undef, undef, undef, undef, undef, undef, undef, undef, undef, undef, undef, undef], defers := [] })
  ?hAx ?assign ?body ?done)
 case hSM =>
  intro k hk q
  simp at q
  subst q
  simp only [List.mem_cons] at hk
  rcases hk with h | h | h | hk
  ·omega
  ·omega
  ·omega
  ·have := hOk.lt w O _ hk; omega
 case hI =>
  rintro k A A' ⟨gl, gs, gm, p1, p2⟩ hbA
  exact ⟨gl, gs, gm, p1.mv (by omega) hbA, p2⟩
 case hAx =>
  rintro k a' V l2 o o' ⟨bx, h1, h2, h3⟩ ho hc
  refine ⟨bx, h1, bx_turns h2 (Turns.putObj (M := [l2]) V o' (by simp)) (fun q => ?_), h3⟩
  simp at q
  subst q
  have := (h2.2 0 _ rfl).1
  simp [World.cell?, ho] at this
  cases o <;> simp_all [Obj.isCells]
 case assign =>
  rintro l2 k V K' hlt hK
  simp only [stC]
  generalize sts.getD k ⟨0, 0, 0⟩ = s at *
  gi_wp2
  exact hK _ _ ((Below.refl _ V).alloc (Nat.le_refl _) _) ⟨V.heap.size, by omega, Bx.new V [vi ki s.a, vi ki s.b, vi ki s.o] _, rfl⟩
 case body =>
  rintro l2 k a' V ⟨gl, gs, gm, p1, p2, p3, p4, p5⟩ ⟨bx, hx1, hx2, rfl⟩ hk hlt
  have hsm : sts.getD k ⟨0, 0, 0⟩ ∈ sts := by rw [List.getD_eq_getElem?_getD, List.getElem?_eq_getElem hk]; exact List.getElem_mem hk
  obtain ⟨ho1, ho2⟩ := hso _ hsm
  have hdr : sts.drop k = sts.getD k ⟨0, 0, 0⟩ :: sts.drop (k + 1) := by rw [List.drop_eq_getElem_cons hk, List.getD_eq_getElem?_getD, List.getElem?_eq_getElem hk]; rfl
  rw [hdr] at p2
  clear hdr hsm SQ H5 O5 Y1 Y2 Y3 hso
  generalize sts.getD k ⟨0, 0, 0⟩ = s at *
  have HX : Hid (HrX w x (w.heap.size + 1 + 1) (w.heap.size + 1 + 1 + 1) gl gs gm bx s V) := ⟨p1, hx2⟩
  have SD : Hid (∀ V : World, Calls Tryz.prog 135 #[.agg #[vi ki s.a, vi ki s.b, vi ki s.o], vi ki x] V fun e w' => e = zr (vi ki (sdV x s)) ∧ Below V.heap.size V w') := fun V => side_any x s (by omega) (by omega) V
  obtain ⟨t, ht⟩ : ∃ t, t = x - s.o := ⟨_, rfl⟩
  have hwr : IntKind.i64.wrap (x - s.o) = t := by rw [ht, IntKind.wrap_i64]; omega
  have HTT : Hid (x - s.o = t) := ht.symm
  clear ht
  obtain ⟨kv, hkv⟩ : ∃ kv, kv = sdV x s := ⟨_, rfl⟩
  rw [← hkv] at SD
  have HGO : Hid (Zm.pGo x (s :: sts.drop (k + 1)) (gl, gs) = Zm.pGo x sts (⟨0, 0, 0⟩, ⟨0, 0, 0⟩)) := p2
  have hbn := p1.bel.size
  have HKV : Hid (kv = sdV x s) := hkv
  clear p1 hx2 p2 hkv
  gi_wp2
  refine region_round (S := HrX w x (w.heap.size + 1 + 1) (w.heap.size + 1 + 1 + 1) gl gs gm bx s) (by kernel_rfl) (by kernel_rfl) (by rintro ⟨_, _, h⟩; exact h) HX.out.drew (fun hHeld => ?_)
  refine tk (v := ?_) 0 ⟨some 19, _, _, _, _, none⟩ rfl ?_ ?_
  case refine_2 => (intro w9 hSw; have l0 := hSw.xs.c 0 rfl; have l1 := hSw.xs.c 1 rfl; have l2 := hSw.xs.c 2 rfl; have l3 := hSw.hs.xl.c 0 rfl; clear hSw; go_simp; try with_reducible rfl)
  simp only [za, zb, zc, zd]
  refine tk (v := ?_) 1 ⟨some 20, _, _, _, _, none⟩ rfl ?_ ?_
  case refine_2 => (intro w9 hSw; have l0 := hSw.xs.c 0 rfl; have l1 := hSw.xs.c 1 rfl; have l2 := hSw.xs.c 2 rfl; have l3 := hSw.hs.xl.c 0 rfl; clear hSw; go_simp; try with_reducible rfl)
  simp only [za, zb, zc, zd]
  refine tk (v := ?_) 3 ⟨some 22, _, _, _, _, none⟩ rfl ?_ ?_
  case refine_2 => (intro w9 hSw; have l0 := hSw.xs.c 0 rfl; have l1 := hSw.xs.c 1 rfl; have l2 := hSw.xs.c 2 rfl; have l3 := hSw.hs.xl.c 0 rfl; clear hSw; go_simp; try with_reducible rfl)
  simp only [za, zb, zc, zd]
  refine tks 4 ⟨some 23, _, _, _, _, none⟩ rfl ?_
  simp only [za, zb, zc, zd]
  refine tk (v := ?_) 5 ⟨some 24, _, _, _, _, none⟩ rfl ?_ ?_
  case refine_2 => (intro w9 hSw; have l0 := hSw.xs.c 0 rfl; have l1 := hSw.xs.c 1 rfl; have l2 := hSw.xs.c 2 rfl; have l3 := hSw.hs.xl.c 0 rfl; clear hSw; go_simp; try with_reducible rfl)
  simp only [za, zb, zc, zd]
  refine tks 6 ⟨some 25, _, _, _, _, none⟩ rfl ?_
  simp only [za, zb, zc, zd]
  refine rd 2 ⟨some 21, _, _, _, _, none⟩ rfl (fun K hK => ?_)
  go_simp
  refine (SD.out _).mono ?_
  rintro e v1 ⟨rfl, hb1⟩
  refine hK.out _ _ (hHeld.below hb1) (fun hHeld => ?_)
  have HVb : Hid (Below V.heap.size V v1) := below_drew_of hb1
  clear hK K hb1
  refine tks 7 ⟨some 7, _, _, _, _, none⟩ rfl ?_
  simp only [za, zb, zc, zd]
  refine tks 8 ⟨some 8, _, _, _, _, none⟩ rfl ?_
  simp only [za, zb, zc, zd]
  refine wpAnyH_done (by kernel_rfl) ?_ _
  have HH := hHeld
  clear hHeld SD HX hbn
  rcases (show (kv = 0 ∧ Hid (Zm.less x s)) ∨ (kv = 1 ∧ Hid (¬ Zm.less x s ∧ Zm.says x s)) ∨ (kv = 2 ∧ Hid (¬ Zm.less x s ∧ ¬ Zm.says x s)) by rw [HKV.out]; unfold sdV; by_cases h1 : Zm.less x s; exact .inl ⟨if_pos h1, h1⟩; by_cases h2 : Zm.says x s; exact .inr (.inl ⟨(if_neg h1).trans (if_pos h2), h1, h2⟩); exact .inr (.inr ⟨(if_neg h1).trans (if_neg h2), h1, h2⟩)) with ⟨hk0, HSD⟩ | ⟨hk0, HSD⟩ | ⟨hk0, HSD⟩
  ·subst hk0
   by_cases hz : gl.n = 0
   ·
    obtain ⟨n, f, l⟩ := gl
    simp only [] at p3 hz
    subst hz
    have hlk := lookup_Z (P := Tryz.prog) (t := 131) Tryz.underlying131 Tryz.underlying135 (show (zeroValue 134).run Tryz.prog _ = .ok gz _ from by kernel_rfl) HH.hs.mz 0
    rw [mpF_0] at hlk
    unfold grV at hlk
    simp only [] at hlk
    have cg := HH.hs.xg.c 0 rfl
    have hgl := HH.hs.xg.1
    have hba : Below v1.heap.size v1 (v1.alloc (.cells #[vi ki 1, vi ki t, vi ki t] 134)) := (Below.refl _ _).alloc (Nat.le_refl _) _
    have H9 := HH.hs.below hba
    obtain ⟨W', hup, hMZ, hgr⟩ := update_Z (P := Tryz.prog) (t := 131) Tryz.underlying131 Tryz.underlying135 H9.mz 0 (grV ⟨1, t, t⟩)
    unfold grV at hup
    simp only [] at hup
    rw [mpF_s0] at hMZ
    have hb1 := HVb.out
    gi_wp2
    refine ⟨?_, _, _, _, ⟨hMZ, bx_turns H9.xl (Turns.grown (M := [w.heap.size + 1 + 1]) hgr (by simp)) (by simp), bx_turns H9.xg (Turns.grown (M := [w.heap.size + 1 + 1]) hgr (by simp)) (by simp), H9.bel.trans ((Turns.grown (M := [w.heap.size + 1 + 1]) hgr (by simp)).below H9.bel.size (by intro q hq; simp at hq; omega)), H9.hmb, H9.hgb⟩, ?_, ?_⟩
    ·exact (Turns.of_below hb1).trans ((Turns.of_below hba).trans (Turns.grown hgr (by simp)))
    ·refine Eq.trans ?_ HGO.out
     rw [Zm.pGo]
     rw [if_pos HSD.out]
     rw [HTT.out]; rfl
    ·simp only []; omega
   ·
    obtain ⟨n, f, l⟩ := gl
    simp only [] at p3 hz
    have hz' : (n == 0) = false := by simpa using hz
    have hwn : IntKind.i64.wrap (n + 1) = n + 1 := by rw [IntKind.wrap_i64]; omega
    have hlk := lookup_Z (P := Tryz.prog) (t := 131) Tryz.underlying131 Tryz.underlying135 (show (zeroValue 134).run Tryz.prog _ = .ok gz _ from by kernel_rfl) HH.hs.mz 0
    rw [mpF_0] at hlk
    unfold grV at hlk
    simp only [] at hlk
    have cg := HH.hs.xg.c 0 rfl
    have hgl := HH.hs.xg.1
    have hba : Below v1.heap.size v1 (v1.alloc (.cells #[vi ki (n + 1), vi ki f, vi ki t] 134)) := (Below.refl _ _).alloc (Nat.le_refl _) _
    have H9 := HH.hs.below hba
    obtain ⟨W', hup, hMZ, hgr⟩ := update_Z (P := Tryz.prog) (t := 131) Tryz.underlying131 Tryz.underlying135 H9.mz 0 (grV ⟨(n + 1), f, t⟩)
    unfold grV at hup
    simp only [] at hup
    rw [mpF_s0] at hMZ
    have hb1 := HVb.out
    gi_wp2
    refine ⟨?_, _, _, _, ⟨hMZ, bx_turns H9.xl (Turns.grown (M := [w.heap.size + 1 + 1]) hgr (by simp)) (by simp), bx_turns H9.xg (Turns.grown (M := [w.heap.size + 1 + 1]) hgr (by simp)) (by simp), H9.bel.trans ((Turns.grown (M := [w.heap.size + 1 + 1]) hgr (by simp)).below H9.bel.size (by intro q hq; simp at hq; omega)), H9.hmb, H9.hgb⟩, ?_, ?_⟩
    ·exact (Turns.of_below hb1).trans ((Turns.of_below hba).trans (Turns.grown hgr (by simp)))
    ·refine Eq.trans ?_ HGO.out
     rw [Zm.pGo]
     rw [if_pos HSD.out]
     rw [HTT.out]; unfold Zm.Gr.more; simp only []; rw [if_neg hz]
    ·simp only []; omega
  ·subst hk0
   by_cases hz : gs.n = 0
   ·
    obtain ⟨n, f, l⟩ := gs
    simp only [] at p4 hz
    subst hz
    have hlk := lookup_Z (P := Tryz.prog) (t := 131) Tryz.underlying131 Tryz.underlying135 (show (zeroValue 134).run Tryz.prog _ = .ok gz _ from by kernel_rfl) HH.hs.mz 1
    rw [mpF_1] at hlk
    unfold grV at hlk
    simp only [] at hlk
    have cg := HH.hs.xg.c 0 rfl
    have hgl := HH.hs.xg.1
    have hba : Below v1.heap.size v1 (v1.alloc (.cells #[vi ki 1, vi ki t, vi ki t] 134)) := (Below.refl _ _).alloc (Nat.le_refl _) _
    have H9 := HH.hs.below hba
    obtain ⟨W', hup, hMZ, hgr⟩ := update_Z (P := Tryz.prog) (t := 131) Tryz.underlying131 Tryz.underlying135 H9.mz 1 (grV ⟨1, t, t⟩)
    unfold grV at hup
    simp only [] at hup
    rw [mpF_s1] at hMZ
    have hb1 := HVb.out
    gi_wp2
    refine ⟨?_, _, _, _, ⟨hMZ, bx_turns H9.xl (Turns.grown (M := [w.heap.size + 1 + 1]) hgr (by simp)) (by simp), bx_turns H9.xg (Turns.grown (M := [w.heap.size + 1 + 1]) hgr (by simp)) (by simp), H9.bel.trans ((Turns.grown (M := [w.heap.size + 1 + 1]) hgr (by simp)).below H9.bel.size (by intro q hq; simp at hq; omega)), H9.hmb, H9.hgb⟩, ?_, ?_⟩
    ·exact (Turns.of_below hb1).trans ((Turns.of_below hba).trans (Turns.grown hgr (by simp)))
    ·refine Eq.trans ?_ HGO.out
     rw [Zm.pGo]
     rw [if_neg HSD.out.1, if_pos HSD.out.2]
     rw [HTT.out]; rfl
    ·simp only []; omega
   ·
    obtain ⟨n, f, l⟩ := gs
    simp only [] at p4 hz
    have hz' : (n == 0) = false := by simpa using hz
    have hwn : IntKind.i64.wrap (n + 1) = n + 1 := by rw [IntKind.wrap_i64]; omega
    have hlk := lookup_Z (P := Tryz.prog) (t := 131) Tryz.underlying131 Tryz.underlying135 (show (zeroValue 134).run Tryz.prog _ = .ok gz _ from by kernel_rfl) HH.hs.mz 1
    rw [mpF_1] at hlk
    unfold grV at hlk
    simp only [] at hlk
    have cg := HH.hs.xg.c 0 rfl
    have hgl := HH.hs.xg.1
    have hba : Below v1.heap.size v1 (v1.alloc (.cells #[vi ki (n + 1), vi ki f, vi ki t] 134)) := (Below.refl _ _).alloc (Nat.le_refl _) _
    have H9 := HH.hs.below hba
    obtain ⟨W', hup, hMZ, hgr⟩ := update_Z (P := Tryz.prog) (t := 131) Tryz.underlying131 Tryz.underlying135 H9.mz 1 (grV ⟨(n + 1), f, t⟩)
    unfold grV at hup
    simp only [] at hup
    rw [mpF_s1] at hMZ
    have hb1 := HVb.out
    gi_wp2
    refine ⟨?_, _, _, _, ⟨hMZ, bx_turns H9.xl (Turns.grown (M := [w.heap.size + 1 + 1]) hgr (by simp)) (by simp), bx_turns H9.xg (Turns.grown (M := [w.heap.size + 1 + 1]) hgr (by simp)) (by simp), H9.bel.trans ((Turns.grown (M := [w.heap.size + 1 + 1]) hgr (by simp)).below H9.bel.size (by intro q hq; simp at hq; omega)), H9.hmb, H9.hgb⟩, ?_, ?_⟩
    ·exact (Turns.of_below hb1).trans ((Turns.of_below hba).trans (Turns.grown hgr (by simp)))
    ·refine Eq.trans ?_ HGO.out
     rw [Zm.pGo]
     rw [if_neg HSD.out.1, if_pos HSD.out.2]
     rw [HTT.out]; unfold Zm.Gr.more; simp only []; rw [if_neg hz]
    ·simp only []; omega
  ·subst hk0
   by_cases hz : gm.n = 0
   ·
    obtain ⟨n, f, l⟩ := gm
    simp only [] at p5 hz
    subst hz
    have hlk := lookup_Z (P := Tryz.prog) (t := 131) Tryz.underlying131 Tryz.underlying135 (show (zeroValue 134).run Tryz.prog _ = .ok gz _ from by kernel_rfl) HH.hs.mz 2
    rw [mpF_2] at hlk
    unfold grV at hlk
    simp only [] at hlk
    have cg := HH.hs.xg.c 0 rfl
    have hgl := HH.hs.xg.1
    have hba : Below v1.heap.size v1 (v1.alloc (.cells #[vi ki 1, vi ki t, vi ki t] 134)) := (Below.refl _ _).alloc (Nat.le_refl _) _
    have H9 := HH.hs.below hba
    obtain ⟨W', hup, hMZ, hgr⟩ := update_Z (P := Tryz.prog) (t := 131) Tryz.underlying131 Tryz.underlying135 H9.mz 2 (grV ⟨1, t, t⟩)
    unfold grV at hup
    simp only [] at hup
    rw [mpF_s2] at hMZ
    have hb1 := HVb.out
    gi_wp2
    refine ⟨?_, _, _, _, ⟨hMZ, bx_turns H9.xl (Turns.grown (M := [w.heap.size + 1 + 1]) hgr (by simp)) (by simp), bx_turns H9.xg (Turns.grown (M := [w.heap.size + 1 + 1]) hgr (by simp)) (by simp), H9.bel.trans ((Turns.grown (M := [w.heap.size + 1 + 1]) hgr (by simp)).below H9.bel.size (by intro q hq; simp at hq; omega)), H9.hmb, H9.hgb⟩, ?_, ?_⟩
    ·exact (Turns.of_below hb1).trans ((Turns.of_below hba).trans (Turns.grown hgr (by simp)))
    ·refine Eq.trans ?_ HGO.out
     rw [Zm.pGo]
     rw [if_neg HSD.out.1, if_neg HSD.out.2]
    ·simp only []; omega
   ·
    obtain ⟨n, f, l⟩ := gm
    simp only [] at p5 hz
    have hz' : (n == 0) = false := by simpa using hz
    have hwn : IntKind.i64.wrap (n + 1) = n + 1 := by rw [IntKind.wrap_i64]; omega
    have hlk := lookup_Z (P := Tryz.prog) (t := 131) Tryz.underlying131 Tryz.underlying135 (show (zeroValue 134).run Tryz.prog _ = .ok gz _ from by kernel_rfl) HH.hs.mz 2
    rw [mpF_2] at hlk
    unfold grV at hlk
    simp only [] at hlk
    have cg := HH.hs.xg.c 0 rfl
    have hgl := HH.hs.xg.1
    have hba : Below v1.heap.size v1 (v1.alloc (.cells #[vi ki (n + 1), vi ki f, vi ki t] 134)) := (Below.refl _ _).alloc (Nat.le_refl _) _
    have H9 := HH.hs.below hba
    obtain ⟨W', hup, hMZ, hgr⟩ := update_Z (P := Tryz.prog) (t := 131) Tryz.underlying131 Tryz.underlying135 H9.mz 2 (grV ⟨(n + 1), f, t⟩)
    unfold grV at hup
    simp only [] at hup
    rw [mpF_s2] at hMZ
    have hb1 := HVb.out
    gi_wp2
    refine ⟨?_, _, _, _, ⟨hMZ, bx_turns H9.xl (Turns.grown (M := [w.heap.size + 1 + 1]) hgr (by simp)) (by simp), bx_turns H9.xg (Turns.grown (M := [w.heap.size + 1 + 1]) hgr (by simp)) (by simp), H9.bel.trans ((Turns.grown (M := [w.heap.size + 1 + 1]) hgr (by simp)).below H9.bel.size (by intro q hq; simp at hq; omega)), H9.hmb, H9.hgb⟩, ?_, ?_⟩
    ·exact (Turns.of_below hb1).trans ((Turns.of_below hba).trans (Turns.grown hgr (by simp)))
    ·refine Eq.trans ?_ HGO.out
     rw [Zm.pGo]
     rw [if_neg HSD.out.1, if_neg HSD.out.2]
    ·simp only []; omega
 case done =>
  rintro D V hD ⟨gl, gs, gm, p1, p2, p3, p4, p5⟩ hK
  have hfin : (gl, gs) = Zm.pGo x sts (⟨0, 0, 0⟩, ⟨0, 0, 0⟩) := by rw [List.drop_length] at p2; exact p2
  have cg := p1.xg.c 0 rfl
  have hh1 := p1.hmb
  have hh2 := p1.hgb
  go_wp2_with fail
  refine ⟨by simp, .inl ⟨_, _, rfl, run_takeDeferred hK, ?_⟩⟩
  refine ⟨_, results_tmp rfl _ _ _, _, gm, rfl, ?_, ?_⟩
  ·rw [← hfin]; exact p1.mz.same (World.putObj_heap_other (by omega))
  ·exact p1.bel.trans ((Turns.putObj (M := [D]) V _ (by simp)).below p1.bel.size (by intro q hq; simp at hq; omega))
def inV (g : Zm.Gr × Zm.Gr) : Int := if g.2.n = 0 then g.1.l else g.2.f
def inH (g : Zm.Gr × Zm.Gr) : Int := if g.2.n = 0 then 2 else if g.2.n = 1 then 0 else 1
theorem zin_yes (T : List Value) (hT : T.length = 25) (x : Int) (y1 : -1000000000000000 ≤ x) (y2 : x ≤ 1000000000000000) (g : Zm.Gr × Zm.Gr) (w : World) (RT : Hid (∀ W : World, Below w.heap.size w W → Calls Tryz.prog 31 #[.agg T.toArray] W fun r w' => r = zr (.bool true) ∧ Below W.heap.size W w'))
  (A1 : Hid (∀ W : World, Below w.heap.size w W → Calls Tryz.prog 78 #[vi ki x] W fun r w' => r = zr (.bool true) ∧ w' = W))
  (A2 : Hid (∀ W : World, Below w.heap.size w W → Calls Tryz.prog 78 #[vi ki (x - 57600)] W fun r w' => r = zr (.bool true) ∧ w' = W))
  (A3 : Hid (∀ W : World, Below w.heap.size w W → Calls Tryz.prog 78 #[vi ki (x + 57600)] W fun r w' => r = zr (.bool true) ∧ w' = W))
  (HE : Hid (∀ W : World, Below w.heap.size w W → Calls Tryz.prog 88 #[.agg T.toArray, vi ki x] W fun r w' => ∃ mb gm, r = zr (.map (some mb)) ∧ MapZ w' mb gz (mpF g.1 g.2 gm) ∧ Below W.heap.size W w')) :
  Calls Tryz.prog 40 #[.agg T.toArray, vi ki x] w fun r w' => r = zr (.tuple #[vi ki (inV g), vi ki (inH g), vi ki 0]) ∧ Below w.heap.size w w' := by
 have X1 : Hid (Bx (w.alloc (.cells T.toArray 44)) w.heap.size T) := Bx.new w T _
 have B1 : Hid (Below w.heap.size w (w.alloc (.cells T.toArray 44))) := (Below.refl _ _).alloc (Nat.le_refl _) _
 go_enter Tryz.func40, Tryz.ntmps40
 generalize hUA : T.toArray = UA at *
 go_upto_region 1 with fail
 refine gen_code (fun V => Bx V w.heap.size T ∧ Below w.heap.size w V) ⟨X1.out, B1.out⟩ ?_
 clear X1 B1
 rintro V ⟨XV, BV⟩
 have HX : Hid (Bx V w.heap.size T) := XV
 have HB : Hid (Below w.heap.size w V) := BV
 clear XV BV
 go_wp2_with (first | (refine wpList_load_mid rfl 44 _ rfl w.heap.size 0 rfl T _ HX.out.all Tryz.underlying44 rfl (by rw [hT]; kernel_rfl) ?_; rw [hUA]) | fail)
 refine (RT.out _ HB.out).mono ?_
 rintro e v1 ⟨rfl, hb1⟩
 have HX1 : Hid (Bx v1 w.heap.size T) := HX.out.below hb1
 have HB1 : Hid (Below w.heap.size w v1) := HB.out.trans (hb1.mono HB.out.size)
 clear hb1 HX HB
 go_wp2_with fail
 refine (A1.out _ HB1.out).mono ?_
 rintro e v2 ⟨rfl, hv⟩
 rw [hv]; clear hv v2
 go_wp2_with fail
 refine (A2.out _ HB1.out).mono ?_
 rintro e v2 ⟨rfl, hv⟩
 rw [hv]; clear hv v2
 go_wp2_with fail
 refine (A3.out _ HB1.out).mono ?_
 rintro e v2 ⟨rfl, hv⟩
 rw [hv]; clear hv v2
 go_wp2_with (first | (refine wpList_load_mid rfl 44 _ rfl w.heap.size 0 rfl T _ HX1.out.all Tryz.underlying44 rfl (by rw [hT]; kernel_rfl) ?_; rw [hUA]) | fail)
 refine (HE.out _ HB1.out).mono ?_
 rintro e v3 ⟨mb, gm, rfl, hMZ, hb3⟩
 have HB3 : Hid (Below w.heap.size w v3) := HB1.out.trans (hb3.mono HB1.out.size)
 clear hb3 HX1 HB1 HE RT A1 A2 A3
 obtain ⟨⟨n0, f0, l0⟩, ⟨n1, f1, l1⟩⟩ := g
 have hl1 := lookup_Z (P := Tryz.prog) (t := 131) Tryz.underlying131 Tryz.underlying135 (show (zeroValue 134).run Tryz.prog _ = .ok gz _ from by kernel_rfl) hMZ 1
 rw [mpF_1] at hl1
 unfold grV at hl1
 simp only [] at hl1
 have hb4 : Below v3.heap.size v3 (v3.alloc (.cells #[vi ki n1, vi ki f1, vi ki l1] 134)) := (Below.refl _ _).alloc (Nat.le_refl _) _
 have hl0 := lookup_Z (P := Tryz.prog) (t := 131) Tryz.underlying131 Tryz.underlying135 (show (zeroValue 134).run Tryz.prog _ = .ok gz _ from by kernel_rfl) (hMZ.same (hb4.block mb hMZ.lt)) 0
 rw [mpF_0] at hl0
 unfold grV at hl0
 simp only [] at hl0
 have HB4 : Hid (Below w.heap.size w (v3.alloc (.cells #[vi ki n1, vi ki f1, vi ki l1] 134))) := HB3.out.trans (hb4.mono HB3.out.size)
 clear hb4 hMZ HB3
 have hfd : ∀ W : World, (Instr.field 134 (.agg #[vi ki n0, vi ki f0, vi ki l0]) 2).run Tryz.prog W = .ok (vi ki l0) W := fun W => by kernel_rfl
 by_cases k0 : n1 = 0
 ·subst k0
  have hV : inV (⟨n0, f0, l0⟩, ⟨0, f1, l1⟩) = l0 := if_pos rfl
  have hH : inH (⟨n0, f0, l0⟩, ⟨0, f1, l1⟩) = 2 := if_pos rfl
  go_wp2_with fail
  exact bodyPost_ret (v := .tuple #[vi ki l0, vi ki 2, vi ki 0]) (by simp [results, Tryz.results40, go_sem]) rfl ⟨by rw [hV, hH], HB4.out⟩
 ·have k0' : (n1 == 0) = false := by simpa using k0
  have hV : inV (⟨n0, f0, l0⟩, ⟨n1, f1, l1⟩) = f1 := if_neg k0
  by_cases k1 : n1 = 1
  ·subst k1
   have hH : inH (⟨n0, f0, l0⟩, ⟨1, f1, l1⟩) = 0 := rfl
   go_wp2_with fail
   exact bodyPost_ret (v := .tuple #[vi ki f1, vi ki 0, vi ki 0]) (by simp [results, Tryz.results40, go_sem]) rfl ⟨by rw [hV, hH], HB4.out⟩
  ·have k1' : (n1 == 1) = false := by simpa using k1
   have hH : inH (⟨n0, f0, l0⟩, ⟨n1, f1, l1⟩) = 1 := (if_neg k0).trans (if_neg k1)
   go_wp2_with fail
   exact bodyPost_ret (v := .tuple #[vi ki f1, vi ki 1, vi ki 0]) (by simp [results, Tryz.results40, go_sem]) rfl ⟨by rw [hV, hH], HB4.out⟩
end Go.Proofs.YtklehbmghjcmaaaGreatDoor
