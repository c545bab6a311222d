/- The reference's tokens. -/
import Derived.Test.YtaoocecipacnhaaDoorRxXq
import Derived.Test.YtaoocecipacnhaaDoorRxLq
namespace Go.Proofs.YtaoocecipacnhaaDoor
open Go.RowKit
set_option linter.unusedVariables false

theorem infoRTok : (Tryd.prog.info? 59).map (fun i => (i.zero, i.size, i.bytes)) = some (some (.agg #[.int .i64 0, .string ByteArray.empty, .int .i64 0]), 3, 32) := by kernel_rfl
/-- the reference's tokens at hand, in a row of one's own. -/
structure TQ (w : World) (v : Value) (A : List Tk) (W : World) : Prop where
  low : Below w.heap.size w W
  own : W.ownsRow w.heap.size 59 3 v A.length (flatT A)
theorem TQ.below {w : World} {v : Value} {A : List Tk} {W V : World} (h : TQ w v A W) (k : Below W.heap.size W V) : TQ w v A V :=
  ⟨h.low.trans (k.mono h.low.size), ownsRow_keep h.own (fun c h1 h2 => k.block c h2)⟩
theorem TQ.more {w : World} {v v' : Value} {A : List Tk} {W V : World} {p : Tk} (h : TQ w v A W) (hg : W.grownBy V v.ownBlock) (ho : V.ownsRow w.heap.size 59 3 v' (A.length + 1) (flatT A ++ [.int .i64 p.1, .string p.2.1, .int .i64 p.2.2])) : TQ w v' (A ++ [p]) V := by
  have hob : ∀ c, v.ownBlock = some c → w.heap.size ≤ c := fun c hc => (ob_lt h.own hc).1
  refine ⟨⟨hg.os.trans h.low.os, hg.tape.trans h.low.tape, hg.output.trans h.low.output, Nat.le_trans h.low.size hg.size, fun k hk => (hg.block k (by have := h.low.size; omega) (fun e => by have := hob _ e.symm; omega)).trans (h.low.block k hk)⟩, ?_⟩
  rw [flatT_append, List.length_append]
  exact ho
/-- what the reference's tokens hands back. -/
def RTokOf (w : World) (e : Ending) (w' : World) : Sum Int (List Tk) → Prop
  | .inl i => e = .returned (.tuple #[.slice none 0 0, .int .i64 i, .bool false])
  | .inr T => ∃ v, e = .returned (.tuple #[v, .int .i64 0, .bool true]) ∧ w'.ownsRow w.heap.size 59 3 v T.length (flatT T)

set_option maxRecDepth 100000 in
set_option maxHeartbeats 4000000 in
theorem rtokens_any (s : ByteArray) (hs : s.size ≤ 2048) (L : List Tk) (hl : L.length ≤ 2048) (q : Option Addr) (cap : Nat) (w : World) (hq : L ≠ [] → ∃ b, q = some ⟨b, 0, none⟩ ∧ PV b 0 cap L w)
    (HQ : Hid (∀ p ∈ L, ∃ a : Nat, p.2.2 = (a : Int) ∧ a < s.size)) (HO : Hid (∀ i p, L[i]? = some p → qt p = false → (oneT p (L.drop (i + 1))).2.1.size ≤ 2048)) :
    Calls Tryd.prog 17 #[.string s, .slice q L.length cap] w fun e w' => Below w.heap.size w w' ∧ RTokOf w e w' (rtk s 0 L []) := by
  obtain ⟨i0, hi0, iz0, iz1, iz2⟩ := info_parts infoRTok
  obtain ⟨R, hR⟩ : ∃ R, R = rtk s 0 L [] := ⟨_, rfl⟩
  rw [← hR]
  have HR : Hid (R = rtk s ((0 : Nat) : Int) (L.drop 0) []) := hR
  clear hR
  have HV : Hid (L ≠ [] → ∃ b, q = some ⟨b, 0, none⟩ ∧ PV b 0 cap L w) := hq
  clear hq
  have hlI : (L.length : Int) ≤ 2048 := by omega
  have hsI : (s.size : Int) ≤ 2048 := by omega
  have K0 : Hid (TQ w (.slice none 0 0) [] w) := ⟨Below.refl _ _, World.ownsRow_nil _ _ _ _⟩
  go_enter Tryd.func17, Tryd.ntmps17
  go_wp2_with fail
  go_loopw [7, 8, 9] (fun v ev iv W => ∃ (i : Nat) (A : List Tk) (e : Int) (sq : Option Addr) (sn sc : Nat), v = .slice sq sn sc ∧ ev = .int .i64 e ∧ iv = .int .i64 (i : Int) ∧ i ≤ L.length ∧ A.length ≤ i ∧ Hid (TQ w (.slice sq sn sc) A W) ∧ Hid (R = rtk s e (L.drop i) A)) (fun _ _ iv _ => L.length - (intOf iv).toNat)
  case atStart => exact ⟨0, [], 0, none, 0, 0, rfl, rfl, rfl, Nat.zero_le _, Nat.le_refl _, K0, HR⟩
  case round =>
    obtain ⟨i, A, e, sq, sn, sc, rfl, rfl, rfl, hil, hAi, KT, KR⟩ := hrel
    clear K0 HR
    have hi0' : (0 : Int) ≤ (i : Int) := by omega
    have hiw : IntKind.i64.wrap ((i : Int) + 1) = (i : Int) + 1 := by rw [IntKind.wrap_i64]; omega
    by_cases hlt : i < L.length
    · have hltI : (i : Int) < (L.length : Int) := by omega
      obtain ⟨p, hp⟩ : ∃ p, L[i]? = some p := ⟨L[i]'hlt, List.getElem?_eq_getElem hlt⟩
      have hdrop : L.drop i = p :: L.drop (i + 1) := by rw [List.drop_eq_getElem_cons hlt]; congr 1; exact (List.getElem?_eq_some_iff.1 hp).2
      obtain ⟨b, rfl, hPV⟩ := HV.out (fun z => by rw [z] at hlt; simp at hlt)
      have HP : Hid (PV b 0 cap L w) := hPV
      have HpL : Hid (L[i]? = some p) := hp
      obtain ⟨c0, c1, c2, hps⟩ := (hPV.below KT.out.low).cells hp
      obtain ⟨-, ha0, ha1, -⟩ := hPV.2.2.2.2 i p hp
      have hlc := hPV.2.2.1
      have hcc := hPV.2.2.2.1
      have hbW := Nat.lt_of_lt_of_le hPV.1 KT.out.low.size
      have KR2 := KR.out
      rw [hdrop, rtk] at KR2
      obtain ⟨a, haa, has⟩ := HQ.out p (List.mem_of_getElem? hp)
      clear hPV hdrop KR
      by_cases h1 : p.2.2 < e
      · rw [if_pos h1] at KR2
        have HR2 : Hid (R = rtk s e (L.drop (i + 1)) A) := KR2
        clear KR2 hp haa has
        go_wp2_with fail
        go_roundw
        case rel => exact ⟨i + 1, A, e, sq, sn, sc, rfl, rfl, by go_num, by omega, by omega, KT, HR2⟩
        case measure => simp [intOf]; omega
      · rw [if_neg h1] at KR2
        have HR1 : Hid _ := KR2
        clear KR2
        cases hq : qt p with
        | true =>
          have hq1 : (p.2.1.toList == [39]) = true := (lit_eq _ [39]).trans hq
          have HR3 : Hid (R = match qdS s p.2.2.toNat with | none => .inl p.2.2 | some x => rtk s (x.2 : Int) (L.drop (i + 1)) (A ++ [(3, x.1, p.2.2)])) := by have := HR1.out; rw [hq, if_pos rfl] at this; exact this
          clear HR1 hq
          have hat : p.2.2.toNat = a := by omega
          have hqd := quoted_any s a has hs wr
          rw [← haa] at hqd
          have e9 : qdS s p.2.2.toNat = (qdL (sb s (a + 1))).map (fun x => (⟨x.1.toArray⟩, a + 1 + x.2)) := by rw [hat]; rfl
          cases hx : qdL (sb s (a + 1)) with
          | none =>
            rw [hx] at hqd e9
            have HR4 : Hid (R = .inl p.2.2) := by have := HR3.out; rw [e9] at this; exact this
            have HQd : Hid _ := hqd
            clear hqd e9 HR3 hx hp haa hat has
            go_wp2_with fail
            refine Calls.mono HQd.out ?_
            rintro e' W2 ⟨hk, rfl⟩
            have KT2 : Hid (TQ w (.slice sq sn sc) A W2) := KT.out.below hk
            clear hk KT HQd c0 c1 c2
            go_upto_region 10 with fail
            refine wp_region_held_drew (S := (fun V => PV b 0 cap L V)) (by kernel_rfl) (by first | exact HP.out.below KT2.out.low | exact HP.out.below KT2.out.low.drew) (fun hHeld => ?_)
            refine wpAnyH_take (i := 0) (v := ?_) (oi := { dst := some 44, op := _, type := _, pos := _, after := _, guard := none }) rfl (by kernel_rfl) (by kernel_rfl) (by kernel_rfl) (fun _ _ _ h => h) (Or.inl ⟨by kernel_rfl, ?_⟩) (by assumption) ?_
            case refine_2 => (intro w9 hSw; clear hSw; go_simp; try with_reducible rfl)
            simp only [Act.put, List.setIfInBounds_toArray, List.set_cons_zero, List.set_cons_succ]
            refine wpAnyH_take (i := 1) (v := ?_) (oi := { dst := some 45, op := _, type := _, pos := _, after := _, guard := none }) rfl (by kernel_rfl) (by kernel_rfl) (by kernel_rfl) (fun _ _ _ h => h) (Or.inl ⟨by kernel_rfl, ?_⟩) (by assumption) ?_
            case refine_2 => (intro w9 hSw; clear hSw; go_simp; try with_reducible rfl)
            simp only [Act.put, List.setIfInBounds_toArray, List.set_cons_zero, List.set_cons_succ]
            refine wpAnyH_take (i := 2) (v := ?_) (oi := { dst := some 46, op := _, type := _, pos := _, after := _, guard := none }) rfl (by kernel_rfl) (by kernel_rfl) (by kernel_rfl) (fun _ _ _ h => h) (Or.inl ⟨by kernel_rfl, ?_⟩) (by assumption) ?_
            case refine_2 => (intro w9 hSw; clear hSw; go_simp; try with_reducible rfl)
            simp only [Act.put, List.setIfInBounds_toArray, List.set_cons_zero, List.set_cons_succ]
            refine wpAnyH_take (i := 3) (v := ?_) (oi := { dst := some 47, op := _, type := _, pos := _, after := _, guard := none }) rfl (by kernel_rfl) (by kernel_rfl) (by kernel_rfl) (fun _ _ _ h => h) (Or.inl ⟨by kernel_rfl, ?_⟩) (by assumption) ?_
            case refine_2 => (intro w9 hSw; clear hSw; go_simp; try with_reducible rfl)
            simp only [Act.put, List.setIfInBounds_toArray, List.set_cons_zero, List.set_cons_succ]
            refine wpAnyH_take (i := 4) (v := ?_) (oi := { dst := some 48, op := _, type := _, pos := _, after := _, guard := none }) rfl (by kernel_rfl) (by kernel_rfl) (by kernel_rfl) (fun _ _ _ h => h) (Or.inl ⟨by kernel_rfl, ?_⟩) (by assumption) ?_
            case refine_2 => (intro w9 hSw; obtain ⟨r0, r1, r2, r3⟩ := PV.cells hSw HpL.out; have r9 := hSw.1; clear hSw; go_simp; try with_reducible rfl)
            simp only [Act.put, List.setIfInBounds_toArray, List.set_cons_zero, List.set_cons_succ]
            refine wpAnyH_take (i := 5) (v := ?_) (oi := { dst := some 4, op := _, type := _, pos := _, after := _, guard := none }) rfl (by kernel_rfl) (by kernel_rfl) (by kernel_rfl) (fun _ _ _ h => h) (Or.inl ⟨by kernel_rfl, ?_⟩) (by assumption) ?_
            case refine_2 => (intro w9 hSw; clear hSw; go_simp; try with_reducible rfl)
            simp only [Act.put, List.setIfInBounds_toArray, List.set_cons_zero, List.set_cons_succ]
            refine wpAnyH_take (i := 6) (v := ?_) (oi := { dst := some 5, op := _, type := _, pos := _, after := _, guard := none }) rfl (by kernel_rfl) (by kernel_rfl) (by kernel_rfl) (fun _ _ _ h => h) (Or.inl ⟨by kernel_rfl, ?_⟩) (by assumption) ?_
            case refine_2 => (intro w9 hSw; clear hSw; go_simp; try with_reducible rfl)
            simp only [Act.put, List.setIfInBounds_toArray, List.set_cons_zero, List.set_cons_succ]
            refine wpAnyH_take (i := 7) (v := ?_) (oi := { dst := some 6, op := _, type := _, pos := _, after := _, guard := none }) rfl (by kernel_rfl) (by kernel_rfl) (by kernel_rfl) (fun _ _ _ h => h) (Or.inl ⟨by kernel_rfl, ?_⟩) (by assumption) ?_
            case refine_2 => (intro w9 hSw; clear hSw; go_simp; try with_reducible rfl)
            simp only [Act.put, List.setIfInBounds_toArray, List.set_cons_zero, List.set_cons_succ]
            refine wpAnyH_done (by kernel_rfl) ?_ _
            go_wp2
            refine bodyPost_ret (v := .tuple #[.slice none 0 0, .int .i64 p.2.2, .bool false]) (by simp [results, Tryd.results17, go_sem]) rfl ⟨by first | exact KT2.out.low | exact KT2.out.low.drew, by rw [HR4.out]; rfl⟩
          | some x =>
            rw [hx] at hqd e9
            obtain ⟨X, hX⟩ : ∃ X : ByteArray, X = ⟨x.1.toArray⟩ := ⟨_, rfl⟩
            obtain ⟨k, hk⟩ : ∃ k : Nat, k = a + 1 + x.2 := ⟨_, rfl⟩
            have HR4 : Hid (R = rtk s (k : Int) (L.drop (i + 1)) (A ++ [(3, X, p.2.2)])) := by have := HR3.out; rw [e9] at this; rw [hk, hX]; exact this
            have HQd : Hid (Calls Tryd.prog 33 #[.string s, .int .i64 p.2.2] wr fun e w' => Below wr.heap.size wr w' ∧ e = .returned (.tuple #[.string X, .int .i64 (k : Int)])) := by rw [hk, hX]; exact hqd
            clear hqd e9 HR3 hx hk hX hp haa hat has
            have hk0 : ¬ (k : Int) < 0 := by omega
            go_wp2_with fail
            refine Calls.mono HQd.out ?_
            rintro e' W2 ⟨hk, rfl⟩
            have KT2 : Hid (TQ w (.slice sq sn sc) A W2) := KT.out.below hk
            clear hk KT HQd c0 c1 c2
            obtain ⟨c0, c1, c2, -⟩ := (HP.out.below KT2.out.low).cells HpL.out
            have hbW2 := Nat.lt_of_lt_of_le HP.out.1 KT2.out.low.size
            go_wp2_with (at_builtin; refine Hid.out ?_)
            unfold Hid
            refine wpl_append_new rfl _ _ 51 rfl w.heap.size 59 i0 (.agg #[.int .i64 0, .string ByteArray.empty, .int .i64 0]) 3 32 Tryd.underlying51 hi0 iz0 iz1 iz2 rfl (by decide) _ A.length (flatT A) rfl ((KT2.out.below ((Below.refl _ W2).alloc (Nat.le_refl _) _)).own) ⟨W2.heap.size, 0, none⟩ 1 [.int .i64 3, .string X, .int .i64 p.2.2] rfl rfl (part_new _ _ _ _ _) (part_one _ _ _) (by unfold maxLen; omega) (by omega) (by have := KT2.out.low.size; simp; omega) ?_
            intro v' w4 hown' hgrow hnew
            have HF : Hid _ := (KT2.out.below ((Below.refl _ W2).alloc (Nat.le_refl _) _)).more (p := (3, X, p.2.2)) hgrow hown'
            obtain ⟨sq', sn', sc', hv'⟩ := own_form hown'
            subst hv'
            clear hown' hgrow hnew KT2
            go_wp2_with fail
            go_roundw
            case rel => exact ⟨i + 1, A ++ [(3, X, p.2.2)], (k : Int), sq', sn', sc', rfl, rfl, by go_num, by omega, by simp; omega, HF, HR4⟩
            case measure => simp [intOf]; omega
        | false =>
          have hq1 : (p.2.1.toList == [39]) = false := (lit_eq _ [39]).trans hq
          have hsz := HO.out i p hp hq
          obtain ⟨t, ht⟩ : ∃ t, t = oneT p (L.drop (i + 1)) := ⟨_, rfl⟩
          have hta : t.2.2 = p.2.2 := by rw [ht]; unfold oneT; split; rfl; split <;> rfl
          rw [← ht] at hsz
          have HR3 : Hid (R = rtk s (t.2.2 + (t.2.1.size : Int)) (L.drop (i + 1)) (A ++ [t])) := by have := HR1.out; rw [hq, if_neg (by simp), ← ht, ← hta] at this; exact this
          have h1c := one_any b cap i L p hp wr (HP.out.below KT.out.low)
          rw [← ht] at h1c
          have HOn : Hid _ := h1c
          have ha0 : 0 ≤ t.2.2 := by omega
          have ha1 : t.2.2 ≤ 4096 := by omega
          have htw : IntKind.i64.wrap (t.2.2 + (t.2.1.size : Int)) = t.2.2 + (t.2.1.size : Int) := by rw [IntKind.wrap_i64]; omega
          clear h1c HR1 hq ht hta hp haa has
          go_wp2_with fail
          refine Calls.mono HOn.out ?_
          rintro e' W2 ⟨rfl, hk⟩
          have KT2 : Hid (TQ w (.slice sq sn sc) A W2) := KT.out.below hk
          clear hk KT HOn c0 c1 c2
          go_upto_region 14 with fail
          have X2 : Hid (TQ w (.slice sq sn sc) A (W2.alloc (.cells #[.int .i64 t.1, .string t.2.1, .int .i64 t.2.2] 59)) ∧ Bx (W2.alloc (.cells #[.int .i64 t.1, .string t.2.1, .int .i64 t.2.2] 59)) W2.heap.size [.int .i64 t.1, .string t.2.1, .int .i64 t.2.2]) := ⟨KT2.out.below ((Below.refl _ W2).alloc (Nat.le_refl _) _), Bx.new W2 [.int .i64 t.1, .string t.2.1, .int .i64 t.2.2] _⟩
          obtain ⟨B, hB⟩ : ∃ B, B = W2.heap.size := ⟨_, rfl⟩
          have HBo : Hid ((Value.slice sq sn sc).ownBlock ≠ some B) := fun e => by have := (ob_lt KT2.out.own e).2; omega
          rw [← hB] at X2
          rw [← hB]
          clear hB KT2
          refine gen_to (fun V => TQ w (.slice sq sn sc) A V ∧ Bx V B [.int .i64 t.1, .string t.2.1, .int .i64 t.2.2]) X2.out ?_
          clear X2
          rintro W3 ⟨k1, k2⟩
          have KT3 : Hid (TQ w (.slice sq sn sc) A W3) := k1
          have HBx : Hid (Bx W3 B [.int .i64 t.1, .string t.2.1, .int .i64 t.2.2]) := k2
          clear k1 k2
          have b0 := HBx.out.c 0 rfl
          have b1 := HBx.out.c 1 rfl
          have b2 := HBx.out.c 2 rfl
          have b9 := HBx.out.1
          go_wp2_with (at_builtin; refine Hid.out ?_)
          unfold Hid
          refine wpl_append_new rfl _ _ 51 rfl w.heap.size 59 i0 (.agg #[.int .i64 0, .string ByteArray.empty, .int .i64 0]) 3 32 Tryd.underlying51 hi0 iz0 iz1 iz2 rfl (by decide) _ A.length (flatT A) rfl ((KT3.out.below ((Below.refl _ W3).alloc (Nat.le_refl _) _)).own) ⟨W3.heap.size, 0, none⟩ 1 [.int .i64 t.1, .string t.2.1, .int .i64 t.2.2] rfl rfl (part_new _ _ _ _ _) (part_one _ _ _) (by unfold maxLen; omega) (by omega) (by have := KT3.out.low.size; simp; omega) ?_
          intro v' w4 hown' hgrow hnew
          have HF : Hid _ := (KT3.out.below ((Below.refl _ W3).alloc (Nat.le_refl _) _)).more (p := t) hgrow hown'
          have HB4 : Hid (Bx w4 B [.int .i64 t.1, .string t.2.1, .int .i64 t.2.2]) := grow_bx hgrow (HBx.out.alloc _) HBo.out
          obtain ⟨sq', sn', sc', hv'⟩ := own_form hown'
          subst hv'
          clear hown' hgrow hnew KT3
          clear b0 b1 b2 b9 HBx
          have b1 := HB4.out.c 1 rfl
          have b2 := HB4.out.c 2 rfl
          have b9 := HB4.out.1
          go_wp2_with fail
          go_roundw
          case rel => exact ⟨i + 1, A ++ [t], t.2.2 + (t.2.1.size : Int), sq', sn', sc', rfl, rfl, by go_num, by omega, by simp; omega, HF, HR3⟩
          case measure => simp [intOf]; omega
    · obtain rfl : i = L.length := by omega
      have hltI : ¬ (L.length : Int) < (L.length : Int) := by omega
      have HR2 : Hid (R = .inr (A ++ [(5, ⟨#[]⟩, (s.size : Int))])) := by have := KR.out; rw [List.drop_length] at this; exact this
      clear KR
      go_wp2_with (at_builtin; refine Hid.out ?_)
      unfold Hid
      refine wpl_append_new rfl _ _ 51 rfl w.heap.size 59 i0 (.agg #[.int .i64 0, .string ByteArray.empty, .int .i64 0]) 3 32 Tryd.underlying51 hi0 iz0 iz1 iz2 rfl (by decide) _ A.length (flatT A) rfl ((KT.out.below ((Below.refl _ wr).alloc (Nat.le_refl _) _)).own) ⟨wr.heap.size, 0, none⟩ 1 [.int .i64 5, .string ⟨#[]⟩, .int .i64 (s.size : Int)] rfl rfl (part_new _ _ _ _ _) (part_one _ _ _) (by unfold maxLen; omega) (by omega) (by have := KT.out.low.size; simp; omega) ?_
      intro v' w4 hown' hgrow hnew
      have HF : Hid _ := (KT.out.below ((Below.refl _ wr).alloc (Nat.le_refl _) _)).more (p := (5, ⟨#[]⟩, (s.size : Int))) hgrow hown'
      obtain ⟨sq', sn', sc', hv'⟩ := own_form hown'
      subst hv'
      clear hown' hgrow hnew KT
      go_wp2
      exact bodyPost_ret (v := .tuple #[.slice sq' sn' sc', .int .i64 0, .bool true]) (by simp [results, Tryd.results17, go_sem]) rfl ⟨HF.out.low, by rw [HR2.out]; exact ⟨_, rfl, HF.out.own⟩⟩

end Go.Proofs.YtaoocecipacnhaaDoor
