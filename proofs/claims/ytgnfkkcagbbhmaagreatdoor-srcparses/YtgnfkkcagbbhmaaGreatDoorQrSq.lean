/- Contract: the reference's sec of any text of up to a million bytes. -/
import Derived.Test.YtgnfkkcagbbhmaaGreatDoorQrMq
import Derived.Test.YtgnfkkcagbbhmaaGreatDoorPmIq
import Derived.Laws.OwnMore
namespace Go.Proofs.YtgnfkkcagbbhmaaGreatDoor
open Go.RowKit
open Sr (gen_any gen_list)
set_option linter.unusedVariables false

theorem infoSq : (Tryz.prog.info? 9).map (fun i => (i.zero, i.size, i.bytes)) = some (some (.string ByteArray.empty), 1, 16) := by kernel_rfl
def stQ (L : List ByteArray) : List Value := L.map Value.string
theorem stQ_at {L : List ByteArray} {j : Nat} {x : ByteArray} (h : L[j]? = some x) : (stQ L)[j]? = some (.string x) := by unfold stQ; rw [List.getElem?_map, h]; rfl
/-- a row of texts of its own, in a world that keeps what lay in B. -/
structure SW (B : World) (L : List ByteArray) (v : Value) (V : World) : Prop where
  low : Below B.heap.size B V
  own : V.ownsRow B.heap.size 9 1 v L.length (stQ L)
theorem SW.below {B : World} {L : List ByteArray} {v : Value} {V W : World} (h : SW B L v V) (hb : Below V.heap.size V W) : SW B L v W :=
  ⟨h.low.trans (hb.mono h.low.size), own_keepP h.own (fun c _ hl => hb.block c hl)⟩
theorem SW.drew {B : World} {L : List ByteArray} {v : Value} {V : World} (h : SW B L v V) : SW B L v V.drew := ⟨h.low.drew, h.own⟩
theorem SW.low_grown {B : World} {L : List ByteArray} {v : Value} {V V' : World} (h : SW B L v V) (hgr : V.grownBy V' v.ownBlock) : Below B.heap.size B V' :=
  ⟨hgr.os.trans h.low.os, hgr.tape.trans h.low.tape, hgr.output.trans h.low.output, Nat.le_trans h.low.size hgr.size, fun c hc => (hgr.block c (by have := h.low.size; omega) (fun e => by have := (own_ltP h.own e.symm).1; omega)).trans (h.low.block c hc)⟩
theorem SW.more {B : World} {L : List ByteArray} {x : ByteArray} {v v' : Value} {V V' : World} (h : SW B L v V) (hgr : V.grownBy V' v.ownBlock) (hown : V'.ownsRow B.heap.size 9 1 v' (L.length + 1) (stQ L ++ [.string x])) : SW B (L ++ [x]) v' V' :=
  ⟨h.low_grown hgr, by rw [List.length_append]; unfold stQ at hown ⊢; rw [List.map_append]; exact hown⟩
theorem SW.start (w : World) : SW w [] (.slice none 0 0) w := ⟨Below.refl _ _, World.ownsRow_nil _ _ _ _⟩
theorem SW.new (w : World) (L : List ByteArray) (hL : L.length ≤ maxLen) : SW w L (.slice (some ⟨w.heap.size, 0, none⟩) L.length L.length) (w.alloc (.cells (stQ L).toArray 9)) :=
  ⟨(Below.refl _ _).alloc (Nat.le_refl _) _, World.ownsRow_lit w (stQ L).toArray L.length (Nat.le_refl _) hL (by simp [stQ])⟩
theorem SW.put {B : World} {D : List ByteArray} {y : ByteArray} {g n c : Nat} {V : World} (x : ByteArray) (hn : n = D.length + 1) (h : SW B (D ++ [y]) (.slice (some ⟨g, 0, none⟩) n c) V) : SW B (D ++ [x]) (.slice (some ⟨g, 0, none⟩) n c) (V.setCell ⟨g, D.length, none⟩ (.string x)) := by
  subst hn
  have ho := h.own
  rw [List.length_append] at ho
  obtain ⟨a, b⟩ := ho.stored D.length (.string x)
  refine ⟨h.low_grown b, ?_⟩
  rw [List.length_append]
  have e : (stQ (D ++ [y])).set D.length (.string x) = stQ (D ++ [x]) := by
    unfold stQ
    rw [List.map_append, List.map_append, List.set_append_right _ _ (by simp)]
    simp
  rw [← e]; exact a
theorem SW.get {B : World} {L : List ByteArray} {g n c : Nat} {V : World} (h : SW B L (.slice (some ⟨g, 0, none⟩) n c) V) (hn : n = L.length) {j : Nat} {x : ByteArray} (hx : L[j]? = some x) : V.cell? ⟨g, j, none⟩ = some (.string x) ∧ V.frozen? ⟨g, j, none⟩ = false := by
  subst hn
  have := (List.getElem?_eq_some_iff.1 hx).1
  exact ⟨(h.own.cellAt j (by omega)).trans (stQ_at hx), h.own.frozenAt j⟩
theorem SW.slot {B : World} {L : List ByteArray} {v : Value} {V : World} (h : SW B L v V) (h0 : 0 < L.length) : ∃ g c, v = .slice (some ⟨g, 0, none⟩) L.length c ∧ B.heap.size ≤ g ∧ L.length ≤ c ∧ c ≤ maxLen := by
  rcases h.own.2 with ⟨a, _⟩ | ⟨g, cap, cur, a, b, _, c, d, _⟩
  · have := h.own.1
    simp [stQ] at this
    subst a
    have q := h.own
    exfalso
    rcases q.2 with ⟨_, z⟩ | ⟨g, cap, cur, a, _⟩
    · omega
    · cases a
  · exact ⟨g, cap, a, b, c, d⟩
theorem shN_arr (p : ByteArray) : shL p.data.toList = shN p := by unfold shL; rw [arr_of]
theorem shN_bd (p : ByteArray) : shN p ≤ 99 := by
  rw [← shN_arr]
  by_cases h : 0 ≤ shL p.data.toList
  · exact (sh_dg (sh_of h) (by omega)).2.2
  · omega
def bts (L : List ByteArray) : List (List UInt8) := L.map (·.data.toList)
theorem bts_snoc (D : List ByteArray) (x : ByteArray) : bts (D ++ [x]) = bts D ++ [x.data.toList] := by simp [bts]
theorem col_no {l cur : List UInt8} {c : UInt8} (h : c ≠ 58) : colP cur (c :: l) = colP (cur ++ [c]) l := by rw [colP, if_neg h]
theorem col_yes {l cur : List UInt8} : colP cur (58 :: l) = cur :: colP [] l := by rw [colP, if_pos rfl]
theorem one_data (s : ByteArray) (j : Nat) (h : j < s.size) : (s.extract j (j + 1)).data.toList = [s[j]'h] := by
  rw [ByteArray.data_extract, Array.toList_extract]
  show List.take (j + 1 - j) (List.drop j s.data.toList) = _
  rw [List.drop_eq_getElem_cons (by simpa using h)]
  simp [ByteArray.getElem_eq_getElem_data]
theorem drop_at (s : ByteArray) (j : Nat) (h : j < s.size) : s.data.toList.drop j = (s[j]'h) :: s.data.toList.drop (j + 1) := by
  rw [List.drop_eq_getElem_cons (by simpa using h)]
  simp [ByteArray.getElem_eq_getElem_data]
theorem secL_at {L : List ByteArray} {i : Nat} {n : Int} {p : ByteArray} (h : L[i]? = some p) : secL i n (bts (L.drop i)) = if p.size = 2 ∧ 0 ≤ shN p ∧ shN p ≤ 59 then secL (i + 1) (n + (if i = 1 then shN p * 60 else shN p)) (bts (L.drop (i + 1))) else -1 := by
  have hj := (List.getElem?_eq_some_iff.1 h).1
  rw [List.drop_eq_getElem_cons hj, (List.getElem?_eq_some_iff.1 h).2]
  show secL i n (p.data.toList :: bts (L.drop (i + 1))) = _
  rw [secL, shN_arr, Array.length_toList]
  rfl

set_option maxRecDepth 100000 in
set_option maxHeartbeats 4000000 in
theorem sec_any (s : ByteArray) (hs : s.size ≤ 1048576) (w : World) :
    Calls Tryz.prog 120 #[.string s] w fun e w' => e = .returned (.int .i64 (secN s.data.toList)) ∧ Below w.heap.size w w' := by
  obtain ⟨i0, hi0, iz0, iz1, iz2⟩ := info_partsP infoSq
  obtain ⟨G, hG⟩ : ∃ G, secN s.data.toList = G := ⟨_, rfl⟩
  rw [hG]
  have HG : Hid (secV (colP [] s.data.toList) = G) := hG
  clear hG
  obtain ⟨CC, hCC⟩ : ∃ CC, colP [] s.data.toList = CC := ⟨_, rfl⟩
  rw [hCC] at HG
  have HC : Hid (bts [] ++ colP (⟨#[]⟩ : ByteArray).data.toList (s.data.toList.drop 0) = CC) := by show _ = _; rw [List.drop_zero, ← hCC]; rfl
  clear hCC
  go_enter Tryz.func120, Tryz.ntmps120
  go_upto_region 2 with fail
  have K0 : Hid (SW w [⟨#[]⟩] (.slice (some ⟨w.heap.size, 0, none⟩) 1 1) (w.alloc (.cells #[.string ⟨#[]⟩] 9))) := SW.new w [⟨#[]⟩] (by unfold maxLen; decide)
  go_wp2_with fail
  go_loopw [3, 4] (fun v iv W => ∃ (j : Nat) (D : List ByteArray) (cur : ByteArray) (g c : Nat), v = .slice (some ⟨g, 0, none⟩) (D.length + 1) c ∧ iv = .int .i64 (j : Int) ∧ j ≤ s.size ∧ D.length ≤ j ∧ cur.size ≤ j ∧ Hid (bts D ++ colP cur.data.toList (s.data.toList.drop j) = CC) ∧ Hid (∀ p ∈ D, p.size ≤ 1048576) ∧ Hid (SW w (D ++ [cur]) (.slice (some ⟨g, 0, none⟩) (D.length + 1) c) W)) (fun _ iv _ => s.size - (intOf iv).toNat)
  case atStart => exact ⟨0, [], ⟨#[]⟩, _, 1, rfl, rfl, Nat.zero_le _, Nat.le_refl _, Nat.le_refl _, HC, (fun p h => nomatch h), K0⟩
  case round =>
    clear K0 HC
    obtain ⟨j, D, cur, g, c, rfl, rfl, hj, hD, hcur, HE, HZ, KS⟩ := hrel
    have hj0 : (0 : Int) ≤ (j : Int) := by omega
    by_cases hjn : j < s.size
    · have hjI : (j : Int) < (s.size : Int) := by omega
      have hjw : IntKind.i64.wrap ((j : Int) + 1) = (j : Int) + 1 := by rw [IntKind.wrap_i64]; omega
      have hat := drop_at s j hjn
      have hwd : IntKind.i64.wrap ((D.length : Int) + 1 - 1) = (D.length : Int) := by rw [IntKind.wrap_i64]; omega
      have hwz : IntKind.i64.wrap (D.length : Int) = (D.length : Int) := by rw [IntKind.wrap_i64]; omega
      have hd0 : (0 : Int) ≤ (D.length : Int) := by omega
      have hj1 : (0 : Int) ≤ (j : Int) + 1 := by omega
      have hzc : ¬ (9223372036854775807 < cur.size + (min (j + 1) s.size - j)) := by omega
      have hj2 : (j : Int) + 1 ≤ (s.size : Int) := by omega
      have hj3 : (j : Int) ≤ (j : Int) + 1 := by omega
      have hd1 : (D.length : Int) < (D.length : Int) + 1 := by omega
      by_cases h58 : (s[j]'hjn) = 58
      · have hR : ((s[j]'hjn).toNat : Int) = 58 := by rw [h58]; rfl
        have HN : Hid (bts (D ++ [cur]) ++ colP (⟨#[]⟩ : ByteArray).data.toList (s.data.toList.drop (j + 1)) = CC) := by
          show _ = _
          rw [← HE.out, hat, h58, col_yes, bts_snoc, List.append_assoc]; rfl
        have HZ2 : Hid (∀ p ∈ D ++ [cur], p.size ≤ 1048576) := fun p hp => by
          rcases List.mem_append.1 hp with q | q
          · exact HZ.out p q
          · simp at q; subst q; omega
        clear hat h58 HE HZ
        have KX : Hid (SW w (D ++ [cur]) (.slice (some ⟨g, 0, none⟩) (D.length + 1) c) (wr.alloc (.cells #[.string ⟨#[]⟩] 9))) := KS.out.below ((Below.refl _ wr).alloc (Nat.le_refl _) _)
        have HX : Hid (Bx (wr.alloc (.cells #[.string ⟨#[]⟩] 9)) wr.heap.size [.string ⟨#[]⟩]) := Bx.new wr [.string ⟨#[]⟩] _
        go_wp2_with (at_builtin; refine Hid.out ?_)
        unfold Hid
        refine wpl_append_newP rfl _ _ 52 rfl w.heap.size 9 i0 (.string ByteArray.empty) 1 16 Tryz.underlying52 hi0 iz0 iz1 iz2 rfl (by decide) _ (D.length + 1) (stQ (D ++ [cur])) rfl (by have := KX.out.own; rw [List.length_append] at this; exact this) ⟨wr.heap.size, 0, none⟩ 1 [.string ⟨#[]⟩] rfl rfl (fun j u hj => by rw [show (⟨wr.heap.size, 0, none⟩ : Addr).add j = ⟨wr.heap.size, j, none⟩ from by rw [Addr.add_lit]; simp]; exact (HX.out.2 j u hj).1) (by intro u hu; simp at hu; subst hu; rfl) (by unfold maxLen; omega) (by omega) KX.out.low.size ?_
        intro v' w4 hown' hgrow hnew
        have KN : Hid (SW w ((D ++ [cur]) ++ [⟨#[]⟩]) v' w4) := KX.out.more hgrow (by rw [List.length_append]; exact hown')
        obtain ⟨g2, c2, hv', _⟩ := KN.out.slot (by simp)
        have hln : ((D ++ [cur]) ++ [(⟨#[]⟩ : ByteArray)]).length = (D ++ [cur]).length + 1 := by simp
        rw [hln] at hv'
        subst hv'
        have hl2 : (D ++ [cur]).length ≤ j + 1 := by simp; omega
        clear hown' hgrow hnew KX HX KS hln
        go_wp2_with fail
        exact ⟨⟨j + 1, D ++ [cur], ⟨#[]⟩, g2, c2, by simp, rfl, hjn, hl2, Nat.zero_le _, HN, HZ2, KN⟩, by simp only [intOf]; omega⟩
      · have hR : ((s[j]'hjn).toNat : Int) ≠ 58 := fun e => h58 (UInt8.toNat_inj.1 (by have : (58 : UInt8).toNat = 58 := rfl; omega))
        have hRb : (((s[j]'hjn).toNat : Int) == 58) = false := beq_eq_false_iff_ne.2 hR
        have HN : Hid (bts D ++ colP (cur ++ s.extract j (j + 1)).data.toList (s.data.toList.drop (j + 1)) = CC) := by
          show _ = _
          rw [← HE.out, hat, col_no h58, ByteArray.data_append, Array.toList_append, one_data s j hjn]
        have hz : (cur ++ s.extract j (j + 1)).size ≤ 2097152 := by rw [ByteArray.size_append, ByteArray.size_extract]; omega
        clear hat h58 HE hR
        go_upto_region 7 with fail
        have hSt : BW w wr.drew := KS.out.low.drew
        refine wp_region_held_drew (S := BW w) (by kernel_rfl) hSt (fun hHeld => ?_)
        refine gen_any (fun V' => SW w (D ++ [cur]) (.slice (some ⟨g, 0, none⟩) (D.length + 1) c) V') KS.out.drew ?_
        clear hHeld
        intro y1 kk
        have KK : Hid (SW w (D ++ [cur]) (.slice (some ⟨g, 0, none⟩) (D.length + 1) c) y1) := kk
        clear kk KS
        have hHeld : BW w y1 := KK.out.low
        refine wpAnyH_take (i := 0) (v := ?_) (oi := { dst := some 22, op := _, type := _, pos := _, after := _, guard := none }) rfl (by kernel_rfl) (by kernel_rfl) (by kernel_rfl) (fun _ _ _ h => h) (Or.inl ⟨by kernel_rfl, ?_⟩) (by assumption) ?_
        case refine_2 => (intro w9 hSw; clear hSw; go_simp; try with_reducible rfl)
        simp only [Act.put, List.setIfInBounds_toArray, List.set_cons_zero, List.set_cons_succ]
        refine wpAnyH_take (i := 1) (v := ?_) (oi := { dst := some 23, op := _, type := _, pos := _, after := _, guard := none }) rfl (by kernel_rfl) (by kernel_rfl) (by kernel_rfl) (fun _ _ _ h => h) (Or.inl ⟨by kernel_rfl, ?_⟩) (by assumption) ?_
        case refine_2 => (intro w9 hSw; clear hSw; go_simp; try with_reducible rfl)
        simp only [Act.put, List.setIfInBounds_toArray, List.set_cons_zero, List.set_cons_succ]
        refine wpAnyH_take (i := 2) (v := ?_) (oi := { dst := some 24, op := _, type := _, pos := _, after := _, guard := none }) rfl (by kernel_rfl) (by kernel_rfl) (by kernel_rfl) (fun _ _ _ h => h) (Or.inl ⟨by kernel_rfl, ?_⟩) (by assumption) ?_
        case refine_2 => (intro w9 hSw; clear hSw; go_simp; try with_reducible rfl)
        simp only [Act.put, List.setIfInBounds_toArray, List.set_cons_zero, List.set_cons_succ]
        refine wpAnyH_take (i := 3) (v := ?_) (oi := { dst := some 25, op := _, type := _, pos := _, after := _, guard := none }) rfl (by kernel_rfl) (by kernel_rfl) (by kernel_rfl) (fun _ _ _ h => h) (Or.inl ⟨by kernel_rfl, ?_⟩) (by assumption) ?_
        case refine_2 => (intro w9 hSw; clear hSw; go_simp; try with_reducible rfl)
        simp only [Act.put, List.setIfInBounds_toArray, List.set_cons_zero, List.set_cons_succ]
        refine wpAnyH_take (i := 4) (v := ?_) (oi := { dst := some 26, op := _, type := _, pos := _, after := _, guard := none }) rfl (by kernel_rfl) (by kernel_rfl) (by kernel_rfl) (fun _ _ _ h => h) (Or.inl ⟨by kernel_rfl, ?_⟩) (by assumption) ?_
        case refine_2 => (intro w9 hSw; clear hSw; go_simp; try with_reducible rfl)
        simp only [Act.put, List.setIfInBounds_toArray, List.set_cons_zero, List.set_cons_succ]
        refine wpAnyH_take (i := 5) (v := ?_) (oi := { dst := some 27, op := _, type := _, pos := _, after := _, guard := none }) rfl (by kernel_rfl) (by kernel_rfl) (by kernel_rfl) (fun _ _ _ h => h) (Or.inl ⟨by kernel_rfl, ?_⟩) (by assumption) ?_
        case refine_2 => (intro w9 hSw; clear hSw; go_simp; try with_reducible rfl)
        simp only [Act.put, List.setIfInBounds_toArray, List.set_cons_zero, List.set_cons_succ]
        refine wpAnyH_take (i := 6) (v := ?_) (oi := { dst := some 28, op := _, type := _, pos := _, after := _, guard := none }) rfl (by kernel_rfl) (by kernel_rfl) (by kernel_rfl) (fun _ _ _ h => h) (Or.inl ⟨by kernel_rfl, ?_⟩) (by assumption) ?_
        case refine_2 => (intro w9 hSw; clear hSw; go_simp; try with_reducible rfl)
        simp only [Act.put, List.setIfInBounds_toArray, List.set_cons_zero, List.set_cons_succ]
        refine wpAnyH_take (i := 7) (v := ?_) (oi := { dst := some 29, op := _, type := _, pos := _, after := _, guard := none }) rfl (by kernel_rfl) (by kernel_rfl) (by kernel_rfl) (fun _ _ _ h => h) (Or.inl ⟨by kernel_rfl, ?_⟩) (by assumption) ?_
        case refine_2 => (intro w9 hSw; clear hSw; go_simp; try with_reducible rfl)
        simp only [Act.put, List.setIfInBounds_toArray, List.set_cons_zero, List.set_cons_succ]
        refine wpAnyH_take (i := 8) (v := ?_) (oi := { dst := some 30, op := _, type := _, pos := _, after := _, guard := none }) rfl (by kernel_rfl) (by kernel_rfl) (by kernel_rfl) (fun _ _ _ h => h) (Or.inl ⟨by kernel_rfl, ?_⟩) (by assumption) ?_
        case refine_2 => (intro w9 hSw; clear hSw; go_simp; try with_reducible rfl)
        simp only [Act.put, List.setIfInBounds_toArray, List.set_cons_zero, List.set_cons_succ]
        refine wpAnyH_take (i := 10) (v := ?_) (oi := { dst := some 32, op := _, type := _, pos := _, after := _, guard := none }) rfl (by kernel_rfl) (by kernel_rfl) (by kernel_rfl) (fun _ _ _ h => h) (Or.inl ⟨by kernel_rfl, ?_⟩) (by assumption) ?_
        case refine_2 => (intro w9 hSw; clear hSw; go_simp; try with_reducible rfl)
        simp only [Act.put, List.setIfInBounds_toArray, List.set_cons_zero, List.set_cons_succ]
        refine wpAnyH_take (i := 11) (v := ?_) (oi := { dst := some 33, op := _, type := _, pos := _, after := _, guard := none }) rfl (by kernel_rfl) (by kernel_rfl) (by kernel_rfl) (fun _ _ _ h => h) (Or.inl ⟨by kernel_rfl, ?_⟩) (by assumption) ?_
        case refine_2 => (intro w9 hSw; clear hSw; go_simp; try with_reducible rfl)
        simp only [Act.put, List.setIfInBounds_toArray, List.set_cons_zero, List.set_cons_succ]
        refine wpAnyH_take (i := 12) (v := ?_) (oi := { dst := some 34, op := _, type := _, pos := _, after := _, guard := none }) rfl (by kernel_rfl) (by kernel_rfl) (by kernel_rfl) (fun _ _ _ h => h) (Or.inl ⟨by kernel_rfl, ?_⟩) (by assumption) ?_
        case refine_2 => (intro w9 hSw; clear hSw; go_simp; try with_reducible rfl)
        simp only [Act.put, List.setIfInBounds_toArray, List.set_cons_zero, List.set_cons_succ]
        refine wpAnyH_take (i := 13) (v := ?_) (oi := { dst := some 35, op := _, type := _, pos := _, after := _, guard := none }) rfl (by kernel_rfl) (by kernel_rfl) (by kernel_rfl) (fun _ _ _ h => h) (Or.inl ⟨by kernel_rfl, ?_⟩) (by assumption) ?_
        case refine_2 => (intro w9 hSw; clear hSw; go_simp; try with_reducible rfl)
        simp only [Act.put, List.setIfInBounds_toArray, List.set_cons_zero, List.set_cons_succ]
        refine wpAnyH_take (i := 14) (v := ?_) (oi := { dst := some 36, op := _, type := _, pos := _, after := _, guard := none }) rfl (by kernel_rfl) (by kernel_rfl) (by kernel_rfl) (fun _ _ _ h => h) (Or.inl ⟨by kernel_rfl, ?_⟩) (by assumption) ?_
        case refine_2 => (intro w9 hSw; clear hSw; go_simp; try with_reducible rfl)
        simp only [Act.put, List.setIfInBounds_toArray, List.set_cons_zero, List.set_cons_succ]
        refine wpAnyH_ready (rs := [9]) (by kernel_rfl) (by simp) (AllReadyH.cons (o := { dst := some 31, op := _, type := _, pos := _, after := _, guard := none }) rfl (fun K hK => ?_) AllReadyH.nil)
        obtain ⟨q0, q1⟩ := KK.out.get (by simp) (show (D ++ [cur])[D.length]? = some cur by simp)
        go_simp
        refine hK.out _ _ hHeld (fun hHeld => ?_)
        clear hK K q0 q1
        refine wpAnyH_take (i := 15) (v := ?_) (oi := { dst := some 37, op := _, type := _, pos := _, after := _, guard := none }) rfl (by kernel_rfl) (by kernel_rfl) (by kernel_rfl) (fun _ _ _ h => h) (Or.inl ⟨by kernel_rfl, ?_⟩) (by assumption) ?_
        case refine_2 => (intro w9 hSw; clear hSw; go_simp; try with_reducible rfl)
        simp only [Act.put, List.setIfInBounds_toArray, List.set_cons_zero, List.set_cons_succ]
        refine wpAnyH_take (i := 16) (v := ?_) (oi := { dst := some 38, op := _, type := _, pos := _, after := _, guard := none }) rfl (by kernel_rfl) (by kernel_rfl) (by kernel_rfl) (fun _ _ _ h => h) (Or.inl ⟨by kernel_rfl, ?_⟩) (by assumption) ?_
        case refine_2 => (intro w9 hSw; clear hSw; go_simp; try with_reducible rfl)
        simp only [Act.put, List.setIfInBounds_toArray, List.set_cons_zero, List.set_cons_succ]
        refine wpAnyH_ready (rs := [17]) (by kernel_rfl) (by simp) (AllReadyH.cons (o := { dst := none, op := _, type := _, pos := _, after := _, guard := none }) rfl (fun K hK => ?_) AllReadyH.nil)
        obtain ⟨q0, q1⟩ := KK.out.get (by simp) (show (D ++ [cur])[D.length]? = some cur by simp)
        have q2 := World.block_lt_of_cell? _ _ q0
        have KN : Hid (SW w (D ++ [cur ++ s.extract j (j + 1)]) (.slice (some ⟨g, 0, none⟩) (D.length + 1) c) (y1.setCell ⟨g, D.length, none⟩ (.string (cur ++ s.extract j (j + 1))))) := SW.put _ rfl KK.out
        go_simp
        refine hK.out _ _ KN.out.low (fun hHeld => ?_)
        clear hK K q0 q1 q2 KK
        refine wpAnyH_done (by kernel_rfl) ?_ _
        go_wp2_with fail
        exact ⟨⟨j + 1, D, cur ++ s.extract j (j + 1), g, c, rfl, rfl, hjn, by omega, by rw [ByteArray.size_append, ByteArray.size_extract]; omega, HN, HZ, KN⟩, by simp only [intOf]; omega⟩
    · have hjI : ¬ (j : Int) < (s.size : Int) := by omega
      have HP : Hid (bts (D ++ [cur]) = CC) := by
        show _ = _
        rw [← HE.out, List.drop_eq_nil_of_le (by simp; omega), bts_snoc]; rfl
      have HZ2 : Hid (∀ p ∈ D ++ [cur], p.size ≤ 1048576) := fun p hp => by
        rcases List.mem_append.1 hp with q | q
        · exact HZ.out p q
        · simp at q; subst q; omega
      obtain ⟨L, hL⟩ : ∃ L, D ++ [cur] = L := ⟨_, rfl⟩
      have hl : D.length + 1 = L.length := by rw [← hL]; simp
      have hli : (D.length : Int) + 1 = (L.length : Int) := by omega
      rw [hL] at HP KS HZ2
      rw [hl] at KS
      have hln : L.length ≤ 1048577 := by omega
      have hl1 : 0 < L.length := by omega
      obtain ⟨p0, hp0⟩ : ∃ p, L[0]? = some p := ⟨_, List.getElem?_eq_getElem hl1⟩
      clear HE hL hjI hD hcur hj0 hj HZ
      simp only [hl, hli] at *
      clear hl hli
      obtain ⟨q0, q1⟩ := KS.out.get rfl hp0
      have S0 := short_any p0 (by have := HZ2.out p0 (List.mem_of_getElem? hp0); unfold maxLen; omega)
      have b0 := shN_bd p0
      have HG2 : Hid ((if 0 ≤ shN p0 ∧ L.length ≤ 3 then secL 1 (shN p0 * 3600) (bts (L.drop 1)) else -1) = G) := by
        show _ = _
        rw [← HG.out, ← HP.out]
        have e : L = p0 :: L.drop 1 := by
          have := List.drop_eq_getElem_cons (l := L) (i := 0) hl1
          rw [List.drop_zero] at this
          rw [(List.getElem?_eq_some_iff.1 hp0).2] at this
          exact this
        have el : (p0 :: L.drop 1).length = L.length := by rw [← e]
        conv => rhs; rw [e]
        show _ = secV (p0.data.toList :: bts (L.drop 1))
        rw [secV, shN_arr]
        have e2 : (p0.data.toList :: bts (L.drop 1)).length = L.length := by rw [← el]; simp [bts]
        rw [e2]
      have HS0 : Hid (∀ w : World, Calls Tryz.prog 118 #[.string p0] w fun e w' => e = .returned (.int .i64 (shN p0)) ∧ Below w.heap.size w w') := S0
      clear S0 HG HP hp0
      generalize shN p0 = V0 at *
      go_wp2_with fail
      refine (HS0.out _).mono ?_
      rintro e w2 ⟨rfl, hb⟩
      have K2 : Hid (SW w L (.slice (some ⟨g, 0, none⟩) L.length c) w2) := KS.out.below hb
      clear hb HS0 KS q0 q1
      by_cases n0 : V0 < 0
      · have hG : G = -1 := by rw [← HG2.out, if_neg (by omega)]
        clear HG2
        go_wp2_with fail
        go_ret
        exact ⟨by first | rfl | (rw [hG]; rfl), K2.out.low⟩
      · by_cases n3 : L.length ≤ 3
        · have n3I : ¬ (3 : Int) < (L.length : Int) := by omega
          have hm : IntKind.i64.wrap (V0 * 3600) = V0 * 3600 := by rw [IntKind.wrap_i64]; omega
          have HG3 : Hid (secL 1 (V0 * 3600) (bts (L.drop 1)) = G) := by have := HG2.out; rw [if_pos ⟨by omega, n3⟩] at this; exact this
          obtain ⟨N, hN⟩ : ∃ N, V0 * 3600 = N := ⟨_, rfl⟩
          rw [hN] at HG3 hm
          have hN0 : 0 ≤ N ∧ N ≤ 356400 := by omega
          have hm2 : V0 * 3600 = N := hN
          clear HG2
          go_wp2_with fail
          go_loopw [5, 6] (fun nv iv W => ∃ (i : Nat) (n : Int), nv = .int .i64 n ∧ iv = .int .i64 (i : Int) ∧ 1 ≤ i ∧ i ≤ L.length ∧ 0 ≤ n ∧ n ≤ 356400 + (i : Int) * 3540 ∧ Hid (secL i n (bts (L.drop i)) = G) ∧ Hid (SW w L (.slice (some ⟨g, 0, none⟩) L.length c) W)) (fun _ iv _ => L.length - (intOf iv).toNat)
          case atStart => exact ⟨1, N, rfl, rfl, Nat.le_refl _, hl1, hN0.1, by omega, HG3, K2⟩
          case round =>
            clear hN0 hm hm2 hN HG3 K2
            obtain ⟨i, n, rfl, rfl, hi1, hi2, hn1, hn2, HE, KS⟩ := hrel
            have hi0 : (0 : Int) ≤ (i : Int) := by omega
            by_cases hil : i < L.length
            · have hiI : (i : Int) < (L.length : Int) := by omega
              have hiw : IntKind.i64.wrap ((i : Int) + 1) = (i : Int) + 1 := by rw [IntKind.wrap_i64]; omega
              obtain ⟨p, hp⟩ : ∃ p, L[i]? = some p := ⟨_, List.getElem?_eq_getElem hil⟩
              obtain ⟨q0, q1⟩ := KS.out.get rfl hp
              have HS : Hid (∀ w : World, Calls Tryz.prog 118 #[.string p] w fun e w' => e = .returned (.int .i64 (shN p)) ∧ Below w.heap.size w w') := short_any p (by have := HZ2.out p (List.mem_of_getElem? hp); unfold maxLen; omega)
              have hE := HE.out
              rw [secL_at hp] at hE
              have HE2 : Hid ((if p.size = 2 ∧ 0 ≤ shN p ∧ shN p ≤ 59 then secL (i + 1) (n + (if i = 1 then shN p * 60 else shN p)) (bts (L.drop (i + 1))) else -1) = G) := hE
              clear hE HE
              have hps : p.size ≤ 1048576 := HZ2.out p (List.mem_of_getElem? hp)
              generalize shN p = V at *
              go_wp2_with fail
              refine (HS.out _).mono ?_
              rintro e w3 ⟨rfl, hb⟩
              have K3 : Hid (SW w L (.slice (some ⟨g, 0, none⟩) L.length c) w3) := KS.out.below hb
              clear hb HS KS q0 q1
              obtain ⟨q0, q1⟩ := K3.out.get rfl hp
              clear hp
              by_cases c1 : p.size = 2
              · have c1I : ((p.size : Int) != 2) = false := by rw [c1]; rfl
                by_cases c2 : V < 0
                · have hG : G = -1 := by rw [← HE2.out, if_neg (by omega)]
                  clear HE2
                  go_wp2_with fail
                  go_ret
                  exact ⟨by first | rfl | (rw [hG]; rfl), K3.out.low⟩
                · by_cases c3 : V ≤ 59
                  · have c3I : ¬ 59 < V := by omega
                    have hE := HE2.out
                    rw [if_pos ⟨c1, by omega, c3⟩] at hE
                    by_cases i1 : i = 1
                    · subst i1
                      rw [if_pos rfl] at hE
                      have HN : Hid (secL 2 (n + V * 60) (bts (L.drop 2)) = G) := hE
                      have v1 : IntKind.i64.wrap (V * 60) = V * 60 := by rw [IntKind.wrap_i64]; omega
                      have v2 : IntKind.i64.wrap (n + V * 60) = n + V * 60 := by rw [IntKind.wrap_i64]; omega
                      clear hE HE2
                      go_wp2_with fail
                      exact ⟨⟨2, n + V * 60, rfl, rfl, by omega, by omega, by omega, by omega, HN, K3⟩, by simp only [intOf]; omega⟩
                    · rw [if_neg i1] at hE
                      have HN : Hid (secL (i + 1) (n + V) (bts (L.drop (i + 1))) = G) := hE
                      have i1I : ((i : Int) == 1) = false := beq_eq_false_iff_ne.2 (by omega)
                      have v2 : IntKind.i64.wrap (n + V) = n + V := by rw [IntKind.wrap_i64]; omega
                      clear hE HE2
                      go_wp2_with fail
                      exact ⟨⟨i + 1, n + V, rfl, rfl, by omega, by omega, by omega, by omega, HN, K3⟩, by simp only [intOf]; omega⟩
                  · have c3I : 59 < V := by omega
                    have hG : G = -1 := by rw [← HE2.out, if_neg (by omega)]
                    clear HE2
                    go_wp2_with fail
                    go_ret
                    exact ⟨by first | rfl | (rw [hG]; rfl), K3.out.low⟩
              · have c1I : ((p.size : Int) != 2) = true := bne_iff_ne.2 (by omega)
                have hG : G = -1 := by rw [← HE2.out, if_neg (by omega)]
                clear HE2
                go_wp2_with fail
                go_ret
                exact ⟨by first | rfl | (rw [hG]; rfl), K3.out.low⟩
            · have hiI : ¬ (i : Int) < (L.length : Int) := by omega
              have hG : G = n := by rw [← HE.out, List.drop_eq_nil_of_le (by omega)]; rfl
              go_wp2_with fail
              go_ret
              exact ⟨by first | rfl | (rw [hG]; rfl), KS.out.low⟩
        · have n3I : (3 : Int) < (L.length : Int) := by omega
          have hG : G = -1 := by rw [← HG2.out, if_neg (by omega)]
          clear HG2
          go_wp2_with fail
          go_ret
          exact ⟨by first | rfl | (rw [hG]; rfl), K2.out.low⟩

end Go.Proofs.YtgnfkkcagbbhmaaGreatDoor
