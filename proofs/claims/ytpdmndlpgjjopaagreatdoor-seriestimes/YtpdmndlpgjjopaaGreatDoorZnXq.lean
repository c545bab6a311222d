/- The iterator of changes, of a table without a foot. -/
import Derived.Test.YtpdmndlpgjjopaaGreatDoorZnWq
namespace Go.Proofs.YtpdmndlpgjjopaaGreatDoor
open Go.RowKit Sr
set_option linter.unusedVariables false
attribute [local go_sem] Oper.semAt_some

/-- the changes behind a, and not behind b. -/
def Zm.chg (a b : Int) (L : List TrR) : List TrR := (L.drop (Zm.cntLe a (L.map (·.at_)))).takeWhile (fun x => decide (x.at_ ≤ b))
theorem Zm.tw_get {p : TrR → Bool} : ∀ {D : List TrR} {j : Nat} {x : TrR}, D[j]? = some x → j < (D.takeWhile p).length → (D.takeWhile p).getD j zTr = x
  | [], j, x, h, _ => by simp at h
  | y :: D, j, x, h, hl => by
    by_cases hp : p y = true
    · rw [List.takeWhile_cons_of_pos hp] at hl ⊢
      cases j with
      | zero => simpa using h
      | succ j => rw [List.getD_cons_succ]; exact Zm.tw_get (by simpa using h) (by simpa using hl)
    · rw [List.takeWhile_cons_of_neg hp] at hl; simp at hl
theorem Zm.tw_all {p : TrR → Bool} : ∀ {D : List TrR}, (∀ (j : Nat) (x : TrR), D[j]? = some x → p x = true) → (D.takeWhile p).length = D.length
  | [], _ => rfl
  | y :: D, h => by
    rw [List.takeWhile_cons_of_pos (h 0 y rfl), List.length_cons, List.length_cons, Zm.tw_all (fun j x hx => h (j + 1) x (by simpa using hx))]
theorem Zm.tw_at {p : TrR → Bool} : ∀ {D : List TrR} {i : Nat} {x : TrR}, (∀ (j : Nat) (y : TrR), j < i → D[j]? = some y → p y = true) → D[i]? = some x → p x = false → (D.takeWhile p).length = i
  | [], i, x, _, h, _ => by simp at h
  | y :: D, 0, x, _, h, hp => by
    obtain rfl : y = x := by simpa using h
    rw [List.takeWhile_cons_of_neg (by rw [hp]; decide)]; rfl
  | y :: D, i + 1, x, h, hx, hp => by
    rw [List.takeWhile_cons_of_pos (h 0 y (Nat.succ_pos _) rfl), List.length_cons, Zm.tw_at (i := i) (x := x) (fun j z hj hz => h (j + 1) z (Nat.succ_lt_succ hj) (by simpa using hz)) (by simpa using hx) hp]
theorem Zm.tw_lt {p : TrR → Bool} : ∀ {D : List TrR} {i : Nat} {x : TrR}, (∀ (j : Nat) (y : TrR), j < i → D[j]? = some y → p y = true) → D[i]? = some x → p x = true → i < (D.takeWhile p).length
  | [], i, x, _, h, _ => by simp at h
  | y :: D, 0, x, _, h, hp => by
    obtain rfl : y = x := by simpa using h
    rw [List.takeWhile_cons_of_pos hp]; simp
  | y :: D, i + 1, x, h, hx, hp => by
    rw [List.takeWhile_cons_of_pos (h 0 y (Nat.succ_pos _) rfl), List.length_cons]
    exact Nat.succ_lt_succ (Zm.tw_lt (i := i) (x := x) (fun j z hj hz => h (j + 1) z (Nat.succ_lt_succ hj) (by simpa using hz)) (by simpa using hx) hp)
/-- what the iterator of changes holds. -/
structure ChS (W : World) (T : List Value) (bt bf bo : Nat) (a b : Int) (Ok : World → Prop) (S : List Nat) (V : World) : Prop where
  xt : Bx V bt T
  xf : Bx V bf [.int .i64 a]
  xo : Bx V bo [.int .i64 b]
  okS : OkS S Ok
  ok : Ok V
  slt : ∀ k ∈ S, k < W.heap.size
  blt : bt < W.heap.size ∧ bf < W.heap.size ∧ bo < W.heap.size
  wsz : W.heap.size ≤ V.heap.size
theorem ChS.below {W : World} {T : List Value} {bt bf bo : Nat} {a b : Int} {Ok : World → Prop} {S : List Nat} {V V' : World} (h : ChS W T bt bf bo a b Ok S V) (hb : Below V.heap.size V V') : ChS W T bt bf bo a b Ok S V' :=
  ⟨h.xt.below hb, h.xf.below hb, h.xo.below hb, h.okS, h.okS.below h.ok hb, h.slt, h.blt, Nat.le_trans h.wsz hb.size⟩
theorem ChS.drew {W : World} {T : List Value} {bt bf bo : Nat} {a b : Int} {Ok : World → Prop} {S : List Nat} {V : World} (h : ChS W T bt bf bo a b Ok S V) : ChS W T bt bf bo a b Ok S V.drew :=
  ⟨h.xt, h.xf, h.xo, h.okS, h.okS.drew _ h.ok, h.slt, h.blt, h.wsz⟩
theorem ChS.turns {W : World} {T : List Value} {bt bf bo : Nat} {a b : Int} {Ok : World → Prop} {S : List Nat} {M : List Nat} {V V' : World} (h : ChS W T bt bf bo a b Ok S V) (ht : Turns M V V') (hM : ∀ k ∈ bt :: bf :: bo :: S, k ∉ M) : ChS W T bt bf bo a b Ok S V' :=
  ⟨bx_turns h.xt ht (hM _ (by simp)), bx_turns h.xf ht (hM _ (by simp)), bx_turns h.xo ht (hM _ (by simp)), h.okS, h.okS.turns h.ok ht (fun k hk => hM k (by simp [hk])), h.slt, h.blt, Nat.le_trans h.wsz ht.size⟩
/-- the same, and what lay stays. -/
structure ChB (W : World) (T : List Value) (bt bf bo : Nat) (a b : Int) (Ok : World → Prop) (S : List Nat) (V : World) : Prop where
  cs : ChS W T bt bf bo a b Ok S V
  bel : Below W.heap.size W V
theorem ChB.below {W : World} {T : List Value} {bt bf bo : Nat} {a b : Int} {Ok : World → Prop} {S : List Nat} {V V' : World} (h : ChB W T bt bf bo a b Ok S V) (hb : Below V.heap.size V V') : ChB W T bt bf bo a b Ok S V' := ⟨h.cs.below hb, h.bel.trans (hb.mono h.bel.size)⟩
theorem ChB.drew {W : World} {T : List Value} {bt bf bo : Nat} {a b : Int} {Ok : World → Prop} {S : List Nat} {V : World} (h : ChB W T bt bf bo a b Ok S V) : ChB W T bt bf bo a b Ok S V.drew := ⟨h.cs.drew, h.bel.drew⟩
theorem exec_slice {P : Program} {ρ : Operand → Value} {o : Oper} {w : World} {ty : TypeId} {x y : Operand} {sv lo v : Value} (ho : o.op = .slice ty x (some y) none none) (hx : ρ x = sv) (hy : ρ y = lo) (h : (Instr.sliceAt ty sv (some lo) none none).run P w = .ok v w) : (execOp ρ o).run P w = .ok (.value v) w := by
  simp [execOp, ho, hx, hy, h]
/-- those from the place C on. -/
theorem run_slT (ao : Option Addr) (n c C : Nat) (hC : C ≤ n) (w : World) : (Instr.sliceAt 24 (.slice ao n c) (some (.int .i64 (C : Int))) none none).run Tryz.prog w = .ok (.slice (if c = C then ao else ao.map (·.add (C * 4))) (n - C) (c - C)) w := by
  have hs : (sizeOf 23).run Tryz.prog w = .ok 4 w := by kernel_rfl
  have hi : ((C : Int)).toNat = C := by simp
  have hb : (Instr.sliceBound (.int .i64 (C : Int)) n .sliceB).run Tryz.prog w = .ok C w := by
    simp [Instr.sliceBound, asIntOf, hC]
  simp [Instr.sliceAt, Instr.slice, run_underlying Tryz.underlying24, Instr.sliceBounds, hb, hs, Result.andThen]
theorem TrAt.drop {W : World} {ao : Option Addr} {n c C : Nat} {L : List TrR} (h : TrAt W (.slice ao n c) L) (hn : n ≤ c) (hC : C ≤ n) : TrAt W (.slice (if c = C then ao else ao.map (·.add (C * 4))) (n - C) (c - C)) (L.drop C) := by
  obtain ⟨⟨ao1, c1, h1⟩, h2, h3⟩ := h
  simp only [Value.slice.injEq] at h1
  obtain ⟨rfl, rfl, rfl⟩ := h1
  refine ⟨⟨_, _, by rw [List.length_drop]⟩, by rw [List.length_drop]; omega, ?_⟩
  by_cases hCn : C = L.length
  · exact .inl (by rw [hCn, List.drop_length])
  · rw [if_neg (show ¬ c = C by omega)]
    rcases h3 with rfl | ⟨g, o, c', e, hg, hc⟩
    · simp at hC; subst hC; exact absurd rfl hCn
    · simp only [Value.slice.injEq] at e
      obtain ⟨rfl, -, rfl⟩ := e
      refine .inr ⟨g, o + C * 4, c - C, by rw [List.length_drop]; simp [Addr.add], hg, fun j u hj => ?_⟩
      have hsp : trCs L = trCs (L.take C) ++ trCs (L.drop C) := by rw [← trCs_app, List.take_append_drop]
      have hl : (trCs (L.take C)).length = C * 4 := by rw [trCs_len, List.length_take, Nat.min_eq_left hC]
      have := hc (C * 4 + j) u (by rw [hsp, List.getElem?_append_right (by omega), hl, Nat.add_sub_cancel_left]; exact hj)
      rwa [← Nat.add_assoc] at this

set_option maxRecDepth 100000 in
set_option maxHeartbeats 16000000 in
theorem chs_no (T : List Value) (hT : T.length = 25) (S : List Nat) (Ok : World → Prop) (hOk : OkS S Ok) (a b : Int) (ao : Option Addr) (n c : Nat) (hnc : n ≤ c) (L : List TrR) (h5 : T[5]? = some (.slice ao n c)) (h6 : T[6]? = some (.bool false)) (hr : Zm.Rises (L.map (·.at_))) (h4 : L.length ≤ 4096) (hn : L.length = n)
    (TR : ∀ W, Ok W → TrAt W (.slice ao n c) L)
    (w : World) (m : Nat) (bt bf bo : Nat) (X1 : Bx w bt T) (X2 : Bx w bf [.int .i64 a]) (X3 : Bx w bo [.int .i64 b]) (O : Ok w) :
    SeqB m Tryz.prog 134 #[.pointer (some ⟨bt, 0, none⟩), .pointer (some ⟨bf, 0, none⟩), .pointer (some ⟨bo, 0, none⟩)] (bt :: bf :: bo :: S) (fun k => trV ((Zm.chg a b L).getD k zTr)) (Zm.chg a b L).length w := by
  intro l M J W hb hM hSM hJ hY h0
  have HS0 : Hid (ChB W T bt bf bo a b Ok S W) :=
    ⟨⟨X1.below hb, X2.below hb, X3.below hb, hOk, hOk.below O hb, fun k hk => Nat.lt_of_lt_of_le (hOk.lt w O k hk) hb.size, ⟨Nat.lt_of_lt_of_le X1.1 hb.size, Nat.lt_of_lt_of_le X2.1 hb.size, Nat.lt_of_lt_of_le X3.1 hb.size⟩, Nat.le_refl _⟩, Below.refl _ _⟩
  have BH : Hid (∀ V : World, Ok V → Calls Tryz.prog 113 #[.agg T.toArray, .int .i64 a] V fun r w' => r = .returned (.int .i64 ((Zm.cntLe a (L.map (·.at_)) : Nat) : Int)) ∧ Below V.heap.size V w') := fun V hV => behind_any T hT L _ h5 a hr h4 V (TR V hV)
  have hC0 : Zm.cntLe a (L.map (·.at_)) ≤ n := by have := Zm.cntLe_le a (L.map (·.at_)); rw [List.length_map, hn] at this; exact this
  unfold Zm.chg at hY ⊢
  generalize Zm.cntLe a (L.map (·.at_)) = C at *
  have SL : Hid (∀ V : World, (Instr.sliceAt 24 (.slice ao n c) (some (.int .i64 (C : Int))) none none).run Tryz.prog V = .ok (.slice (if c = C then ao else ao.map (·.add (C * 4))) (n - C) (c - C)) V) := fun V => run_slT ao n c C hC0 V
  have TD : Hid (∀ V, Ok V → TrAt V (.slice (if c = C then ao else ao.map (·.add (C * 4))) (n - C) (c - C)) (L.drop C)) := fun V hV => (TR V hV).drop hnc hC0
  have hlen : (L.drop C).length = n - C := by rw [List.length_drop, hn]
  have hm4 : n - C ≤ 4096 := by omega
  generalize L.drop C = D at *
  generalize (if c = C then ao else ao.map (·.add (C * 4))) = a5 at *
  obtain ⟨m5, hm5⟩ : ∃ m5, n - C = m5 := ⟨_, rfl⟩
  rw [hm5] at SL TD hlen hm4
  generalize c - C = c5 at *
  refine callsIn_wide.2 ?_
  go_enter Tryz.func134, Tryz.ntmps134
  go_upto_region 0 with fail
  go_cut [15, 16, 17] (fun v15 v16 v17 wx => v15 = .slice a5 m5 c5 ∧ v16 = .int .i64 (m5 : Int) ∧ v17 = .int .i64 0 ∧ Hid (ChB W T bt bf bo a b Ok S wx))
  case first =>
    refine wp_region_held_drew (S := ChB W T bt bf bo a b Ok S) (by kernel_rfl) HS0.out.drew (fun hHeld => ?_)
    refine wpAnyH_take (i := 0) (v := ?_) (oi := { dst := some 10, op := _, type := _, pos := _, after := _, guard := none }) rfl (by kernel_rfl) (by kernel_rfl) (by kernel_rfl) (fun _ _ _ h => h) (Or.inl ⟨by kernel_rfl, ?_⟩) (by assumption) ?_
    case refine_2 => (intro w9 hSw; clear hSw; go_simp; try with_reducible rfl)
    simp only [Act.put, List.setIfInBounds_toArray, List.set_cons_zero, List.set_cons_succ]
    refine wpAnyH_take (i := 1) (v := ?_) (oi := { dst := some 11, op := _, type := _, pos := _, after := _, guard := none }) rfl (by kernel_rfl) (by kernel_rfl) (by kernel_rfl) (fun _ _ _ h => h) (Or.inl ⟨by kernel_rfl, ?_⟩) (by assumption) ?_
    case refine_2 => (intro w9 hSw; have l1 := hSw.cs.xf.c 0 rfl; have l2 := hSw.cs.xt.c 5 h5; clear hSw; go_simp; try with_reducible rfl)
    simp only [Act.put, List.setIfInBounds_toArray, List.set_cons_zero, List.set_cons_succ]
    refine wpAnyH_take (i := 2) (v := .agg T.toArray) (oi := { dst := some 12, op := _, type := _, pos := _, after := _, guard := none }) rfl (by kernel_rfl) (by kernel_rfl) (by kernel_rfl) (fun _ _ _ h => h) (Or.inl ⟨by kernel_rfl, ?_⟩) (by assumption) ?_
    case refine_1 => (intro w9 hSw; exact exec_row rfl rfl hSw.cs.xt.all Tryz.underlying46 rfl (by rw [hT]; kernel_rfl))
    simp only [Act.put, List.setIfInBounds_toArray, List.set_cons_zero, List.set_cons_succ]
    refine wpAnyH_take (i := 3) (v := ?_) (oi := { dst := some 13, op := _, type := _, pos := _, after := _, guard := none }) rfl (by kernel_rfl) (by kernel_rfl) (by kernel_rfl) (fun _ _ _ h => h) (Or.inl ⟨by kernel_rfl, ?_⟩) (by assumption) ?_
    case refine_2 => (intro w9 hSw; have l1 := hSw.cs.xf.c 0 rfl; have l2 := hSw.cs.xt.c 5 h5; clear hSw; go_simp; try with_reducible rfl)
    simp only [Act.put, List.setIfInBounds_toArray, List.set_cons_zero, List.set_cons_succ]
    refine wpAnyH_take (i := 7) (v := ?_) (oi := { dst := some 17, op := _, type := _, pos := _, after := _, guard := none }) rfl (by kernel_rfl) (by kernel_rfl) (by kernel_rfl) (fun _ _ _ h => h) (Or.inl ⟨by kernel_rfl, ?_⟩) (by assumption) ?_
    case refine_2 => (intro w9 hSw; clear hSw; go_simp; try with_reducible rfl)
    simp only [Act.put, List.setIfInBounds_toArray, List.set_cons_zero, List.set_cons_succ]
    refine wpAnyH_ready (rs := [4]) (by kernel_rfl) (by simp) (AllReadyH.cons (o := { dst := some 14, op := _, type := _, pos := _, after := _, guard := none }) rfl (fun K hK => ?_) AllReadyH.nil)
    go_simp
    refine (BH.out _ hHeld.cs.ok).mono ?_
    rintro e v1 ⟨rfl, hb1⟩
    refine hK.out _ _ (hHeld.below hb1) (fun hHeld => ?_)
    clear hK K hb1
    refine wpAnyH_take (i := 5) (v := .slice a5 m5 c5) (oi := { dst := some 15, op := _, type := _, pos := _, after := _, guard := none }) rfl (by kernel_rfl) (by kernel_rfl) (by kernel_rfl) (fun _ _ _ h => h) (Or.inl ⟨by kernel_rfl, ?_⟩) (by assumption) ?_
    case refine_1 => (intro w9 hSw; exact exec_slice rfl rfl rfl (SL.out w9))
    simp only [Act.put, List.setIfInBounds_toArray, List.set_cons_zero, List.set_cons_succ]
    refine wpAnyH_take (i := 6) (v := ?_) (oi := { dst := some 16, op := _, type := _, pos := _, after := _, guard := none }) rfl (by kernel_rfl) (by kernel_rfl) (by kernel_rfl) (fun _ _ _ h => h) (Or.inl ⟨by kernel_rfl, ?_⟩) (by assumption) ?_
    case refine_2 => (intro w9 hSw; clear hSw; go_simp; try with_reducible rfl)
    simp only [Act.put, List.setIfInBounds_toArray, List.set_cons_zero, List.set_cons_succ]
    refine wpAnyH_done (by kernel_rfl) ?_ _
    go_wp2_with fail
    go_meet
    case rel => exact ⟨rfl, rfl, rfl, hHeld⟩
  case rest =>
    obtain ⟨rfl, rfl, rfl, HS1⟩ := hcut
    have J1 : J 0 wc := hJ _ _ _ h0 HS1.out.bel
    have AL : Hid (∀ j x, D[j]? = some x → x.at_ ≤ b → j < (D.takeWhile (fun x => decide (x.at_ ≤ b))).length → (D.takeWhile (fun x => decide (x.at_ ≤ b))).getD j zTr = x) := fun j x hx _ hj => Zm.tw_get hx hj
    go_wp2_with fail
    go_loopw [17] (fun iv wr => ∃ i : Nat, iv = .int .i64 (i : Int) ∧ i ≤ m5 ∧ Hid (ChS W T bt bf bo a b Ok S wr ∧ J i wr ∧ ∀ j x, j < i → D[j]? = some x → x.at_ ≤ b)) (fun iv _ => m5 - (intOf iv).toNat)
    case atStart => exact ⟨0, rfl, Nat.zero_le _, HS1.out.cs, J1, fun j x hj => absurd hj (Nat.not_lt_zero _)⟩
    case round =>
      obtain ⟨i, rfl, hi, HR⟩ := hrel
      by_cases hlt : i < m5
      · obtain ⟨x, hx⟩ : ∃ x, D[i]? = some x := ⟨_, List.getElem?_eq_getElem (by omega)⟩
        obtain ⟨g, o, c', hsv, hrg⟩ := (TD.out wr HR.out.1.ok).row hx
        rw [hlen] at hsv
        simp only [Value.slice.injEq, true_and] at hsv
        obtain ⟨rfl, rfl⟩ := hsv
        have HRG : Hid (wr.rangeAt g (o + i * 4) [.int .i64 x.at_, .int .i64 x.off, .bool x.dst, .string x.ab]) := hrg
        clear hrg
        have hlt' : (i : Int) < (m5 : Int) := by omega
        have hn5 := HR.out.1
        have hba : Below wr.heap.size wr (wr.alloc (.cells #[.int .i64 x.at_, .int .i64 x.off, .bool x.dst, .string x.ab] 23)) := (Below.refl _ _).alloc (Nat.le_refl _) _
        have HZ : Hid (ChS W T bt bf bo a b Ok S (wr.alloc (.cells #[.int .i64 x.at_, .int .i64 x.off, .bool x.dst, .string x.ab] 23)) ∧ J i (wr.alloc (.cells #[.int .i64 x.at_, .int .i64 x.off, .bool x.dst, .string x.ab] 23)) ∧ Bx (wr.alloc (.cells #[.int .i64 x.at_, .int .i64 x.off, .bool x.dst, .string x.ab] 23)) wr.heap.size [.int .i64 x.at_, .int .i64 x.off, .bool x.dst, .string x.ab]) := ⟨hn5.below hba, hJ _ _ _ HR.out.2.1 (hba.mono hn5.wsz), Bx.new wr [.int .i64 x.at_, .int .i64 x.off, .bool x.dst, .string x.ab] _⟩
        have hwr := hn5.wsz
        have HP : Hid (∀ j x, j < i → D[j]? = some x → x.at_ ≤ b) := HR.out.2.2
        clear hn5 HR hba
        go_upto_region 3 with (first | (refine wpList_load_mid rfl 23 _ rfl g (o + i * 4) rfl [.int .i64 x.at_, .int .i64 x.off, .bool x.dst, .string x.ab] _ HRG.out Tryz.underlying23 rfl (by kernel_rfl) ?_) | fail)
        refine gen_code (fun V => ChS W T bt bf bo a b Ok S V ∧ J i V ∧ Bx V wr.heap.size [.int .i64 x.at_, .int .i64 x.off, .bool x.dst, .string x.ab]) HZ.out ?_
        clear HZ HRG
        rintro V ⟨C1, J2, B1⟩
        have o0 := C1.xo.c 0 rfl
        have x0 := B1.c 0 rfl
        have x1 := B1.c 1 rfl
        have x2 := B1.c 2 rfl
        have x3 := B1.c 3 rfl
        by_cases hgt : b < x.at_
        · have hN : (D.takeWhile (fun x => decide (x.at_ ≤ b))).length = i := Zm.tw_at (fun j y hj hy => decide_eq_true (HP.out j y hj hy)) hx (decide_eq_false (by omega))
          have HJ2 : Hid (J (D.takeWhile (fun x => decide (x.at_ ≤ b))).length V) := by rw [hN]; exact J2
          clear hY C1 B1 J2 AL
          refine (wpIn_wide (n := 10)).1 ?_
          gi_wp2
          refine ⟨fun _ h => (by cases h), ?_⟩
          gi_wp2
          go_wp2_with fail
          refine bodyPost_ret (results_none rfl _ _ _) rfl ?_
          exact ⟨⟨_, rfl⟩, HJ2.out⟩
        · have hle : x.at_ ≤ b := by omega
          have hiN := Zm.tw_lt (fun j y hj hy => decide_eq_true (HP.out j y hj hy)) hx (decide_eq_true hle)
          have hY1 := hY i V hiN C1.wsz J2
          rw [Zm.tw_get hx hiN] at hY1
          obtain ⟨fn, tmps, assign, body, hy, hR⟩ := YieldAt_wide (m' := 10 - 1) hY1
          simp only [trV] at hy
          have HR : Hid (RoundIn Fence.wide (10 - 1) Tryz.prog l fn tmps assign body V fun e W' => e = .returned (.bool true) ∧ J (i + 1) W' ∧ Turns M V W') := hR
          clear hR hY1 J2 B1
          refine (wpIn_wide (n := 10)).1 ?_
          gi_wp2
          refine HR.out.mono ?_
          rintro e' V7 ⟨rfl, hJ7, ht7⟩
          have C7 := C1.turns ht7 hSM
          clear HR hy C1 o0 x0 x1 x2 x3
          gi_wp2
          go_wp2_with fail
          exact ⟨⟨i + 1, by simp, by omega, C7, hJ7, fun j y hj hy => by
            by_cases hji : j = i
            · subst hji; rw [hx] at hy; cases hy; exact hle
            · exact HP.out j y (by omega) hy⟩, by simp [intOf]; omega⟩
      · obtain rfl : i = m5 := by omega
        have f6 : wr.cell? ⟨bt, 6, none⟩ = some (.bool false) := HR.out.1.xt.c 6 h6
        have hN : (D.takeWhile (fun x => decide (x.at_ ≤ b))).length = i := by
          rw [Zm.tw_all (fun j x hx => decide_eq_true (HR.out.2.2 j x (by have := (List.getElem?_eq_some_iff.1 hx).1; omega) hx))]; exact hlen
        go_wp2_with fail
        refine bodyPost_ret (results_none rfl _ _ _) rfl ?_
        exact ⟨⟨_, rfl⟩, by rw [hN]; exact HR.out.2.1⟩

end Go.Proofs.YtpdmndlpgjjopaaGreatDoor
