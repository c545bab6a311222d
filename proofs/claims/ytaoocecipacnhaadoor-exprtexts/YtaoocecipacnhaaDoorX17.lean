import Derived.Test.YtaoocecipacnhaaDoorX16
open Go.Value renaming int → vi, string → vS, slice → vL
open Go.IntKind renaming i64 → ki
open List renaming setIfInBounds_toArray → zb, set_cons_zero → zc, set_cons_succ → zd, length_cons → zl
open Go.Act renaming put → za
open Go.Ending renaming returned → zr
set_option maxRecDepth 100000
set_option maxHeartbeats 16000000
set_option linter.all false
namespace Go.Proofs.YtaoocecipacnhaaDoor
open Go.RowKit
theorem infoRTok : (Tryd.prog.info? 59).map (fun i => (i.zero, i.size, i.bytes)) = some (some (.agg #[vi ki 0, vS ByteArray.empty, vi ki 0]), 3, 32) := by kernel_rfl
structure TQ (w : World) (v : Value) (A : List Tk) (W : World) : Prop where
 low : Below w.heap.size w W
 own : W.ownsRow w.heap.size 59 3 v A.length (flatT A)
theorem TQ.below {w : World} {v : Value} {A : List Tk} {W V : World} (h : TQ w v A W) (k : Below W.heap.size W V) : TQ w v A V :=
 ⟨h.low.trans (k.mono h.low.size), ownsRow_keep h.own (fun c h1 h2 => k.block c h2)⟩
theorem TQ.more {w : World} {v v' : Value} {A : List Tk} {W V : World} {p : Tk} (h : TQ w v A W) (hg : W.grownBy V v.ownBlock) (ho : V.ownsRow w.heap.size 59 3 v' (A.length + 1) (flatT A ++ [vi ki p.1, vS p.2.1, vi ki p.2.2])) : TQ w v' (A ++ [p]) V := by
 have hob : ∀ c, v.ownBlock = some c → w.heap.size ≤ c := fun c hc => (ob_lt h.own hc).1
 refine ⟨⟨hg.os.trans h.low.os, hg.tape.trans h.low.tape, hg.output.trans h.low.output, Nat.le_trans h.low.size hg.size, fun k hk => (hg.block k (by have := h.low.size; omega) (fun e => by have := hob _ e.symm; omega)).trans (h.low.block k hk)⟩, ?_⟩
 rw [flatT_append, List.length_append]
 exact ho
def RTokOf (w : World) (e : Ending) (w' : World) : Sum Int (List Tk) → Prop
 | .inl i => e = zr (.tuple #[vL none 0 0, vi ki i, .bool false])
 | .inr T => ∃ v, e = zr (.tuple #[v, vi ki 0, .bool true]) ∧ w'.ownsRow w.heap.size 59 3 v T.length (flatT T)
theorem rtokens_any (s : ByteArray) (hs : s.size ≤ 2048) (L : List Tk) (hl : L.length ≤ 2048) (q : Option Addr) (cap : Nat) (w : World) (hq : L ≠ [] → ∃ b, q = some ⟨b, 0, none⟩ ∧ PV b 0 cap L w)
  (HQ : Hid (∀ p ∈ L, ∃ a : Nat, p.2.2 = (a : Int) ∧ a < s.size)) (HO : Hid (∀ i p, L[i]? = some p → qt p = false → (oneT p (L.drop (i + 1))).2.1.size ≤ 2048)) :
  Calls Tryd.prog 17 #[vS s, vL q L.length cap] w fun e w' => Below w.heap.size w w' ∧ RTokOf w e w' (rtk s 0 L []) := by
 obtain ⟨i0, hi0, iz0, iz1, iz2⟩ := info_parts infoRTok
 obtain ⟨R, hR⟩ : ∃ R, R = rtk s 0 L [] := ⟨_, rfl⟩
 rw [← hR]
 have HR : Hid (R = rtk s ((0 : Nat) : Int) (L.drop 0) []) := hR
 clear hR
 have HV : Hid (L ≠ [] → ∃ b, q = some ⟨b, 0, none⟩ ∧ PV b 0 cap L w) := hq
 clear hq
 have hlI : (L.length : Int) ≤ 2048 := by omega
 have hsI : (s.size : Int) ≤ 2048 := by omega
 have K0 : Hid (TQ w (vL none 0 0) [] w) := ⟨Below.refl _ _, World.ownsRow_nil _ _ _ _⟩
 go_enter Tryd.func17, Tryd.ntmps17
 go_wp2_with fail
 go_loopw [7, 8, 9] (fun v ev iv W => ∃ (i : Nat) (A : List Tk) (e : Int) (sq : Option Addr) (sn sc : Nat), v = vL sq sn sc ∧ ev = vi ki e ∧ iv = vi ki (i : Int) ∧ i ≤ L.length ∧ A.length ≤ i ∧ Hid (TQ w (vL sq sn sc) A W) ∧ Hid (R = rtk s e (L.drop i) A)) (fun _ _ iv _ => L.length - (intOf iv).toNat)
 case atStart => exact ⟨0, [], 0, none, 0, 0, rfl, rfl, rfl, Nat.zero_le _, Nat.le_refl _, K0, HR⟩
 case round =>
  obtain ⟨i, A, e, sq, sn, sc, rfl, rfl, rfl, hil, hAi, KT, KR⟩ := hrel
  clear K0 HR
  have hi0' : (0 : Int) ≤ (i : Int) := by omega
  have hiw : IntKind.i64.wrap ((i : Int) + 1) = (i : Int) + 1 := by rw [IntKind.wrap_i64]; omega
  by_cases hlt : i < L.length
  ·have hltI : (i : Int) < (L.length : Int) := by omega
   obtain ⟨p, hp⟩ : ∃ p, L[i]? = some p := ⟨L[i]'hlt, List.getElem?_eq_getElem hlt⟩
   have hdrop : L.drop i = p :: L.drop (i + 1) := by rw [List.drop_eq_getElem_cons hlt]; congr 1; exact (List.getElem?_eq_some_iff.1 hp).2
   obtain ⟨b, rfl, hPV⟩ := HV.out (fun z => by rw [z] at hlt; simp at hlt)
   have HP : Hid (PV b 0 cap L w) := hPV
   have HpL : Hid (L[i]? = some p) := hp
   obtain ⟨c0, c1, c2, hps⟩ := (hPV.below KT.out.low).cells hp
   obtain ⟨-, ha0, ha1, -⟩ := hPV.2.2.2.2 i p hp
   have hlc := hPV.2.2.1
   have hcc := hPV.2.2.2.1
   have hbW := Nat.lt_of_lt_of_le hPV.1 KT.out.low.size
   have KR2 := KR.out
   rw [hdrop, rtk] at KR2
   obtain ⟨a, haa, has⟩ := HQ.out p (List.mem_of_getElem? hp)
   clear hPV hdrop KR
   by_cases h1 : p.2.2 < e
   ·rw [if_pos h1] at KR2
    have HR2 : Hid (R = rtk s e (L.drop (i + 1)) A) := KR2
    clear KR2 hp haa has
    go_wp2_with fail
    go_roundw
    case rel => exact ⟨i + 1, A, e, sq, sn, sc, rfl, rfl, by go_num, by omega, by omega, KT, HR2⟩
    case measure => simp [intOf]; omega
   ·rw [if_neg h1] at KR2
    have HR1 : Hid _ := KR2
    clear KR2
    cases hq : qt p with
    | true =>
     have hq1 : (p.2.1.toList == [39]) = true := (lit_eq _ [39]).trans hq
     have HR3 : Hid (R = match qdS s p.2.2.toNat with | none => .inl p.2.2 | some x => rtk s (x.2 : Int) (L.drop (i + 1)) (A ++ [(3, x.1, p.2.2)])) := by have := HR1.out; rw [hq, if_pos rfl] at this; exact this
     clear HR1 hq
     have hat : p.2.2.toNat = a := by omega
     have hqd := quoted_any s a has hs wr
     rw [← haa] at hqd
     have e9 : qdS s p.2.2.toNat = (qdL (sb s (a + 1))).map (fun x => (⟨x.1.toArray⟩, a + 1 + x.2)) := by rw [hat]; rfl
     cases hx : qdL (sb s (a + 1)) with
     | none =>
      rw [hx] at hqd e9
      have HR4 : Hid (R = .inl p.2.2) := by have := HR3.out; rw [e9] at this; exact this
      have HQd : Hid _ := hqd
      clear hqd e9 HR3 hx hp haa hat has
      go_wp2_with fail
      refine Calls.mono HQd.out ?_
      rintro e' W2 ⟨hk, rfl⟩
      have KT2 : Hid (TQ w (vL sq sn sc) A W2) := KT.out.below hk
      clear hk KT HQd c0 c1 c2
      go_upto_region 10 with fail
      refine wp_region_held_drew (S := (fun V => PV b 0 cap L V)) (by kernel_rfl) (by first | exact HP.out.below KT2.out.low | exact HP.out.below KT2.out.low.drew) (fun hHeld => ?_)
      refine tks 0 (oi := ⟨some 44, _, _, _, _, none⟩) ?_
      simp only [za, zb, zc, zd]
      refine tks 1 (oi := ⟨some 45, _, _, _, _, none⟩) ?_
      simp only [za, zb, zc, zd]
      refine tks 2 (oi := ⟨some 46, _, _, _, _, none⟩) ?_
      simp only [za, zb, zc, zd]
      refine tks 3 (oi := ⟨some 47, _, _, _, _, none⟩) ?_
      simp only [za, zb, zc, zd]
      refine tk (v := ?_) 4 (oi := ⟨some 48, _, _, _, _, none⟩) ?_ ?_
      case refine_2 => (intro w9 hSw; obtain ⟨r0, r1, r2, r3⟩ := PV.cells hSw HpL.out; have r9 := hSw.1; clear hSw; go_simp; try with_reducible rfl)
      simp only [za, zb, zc, zd]
      refine tks 5 (oi := ⟨some 4, _, _, _, _, none⟩) ?_
      simp only [za, zb, zc, zd]
      refine tks 6 (oi := ⟨some 5, _, _, _, _, none⟩) ?_
      simp only [za, zb, zc, zd]
      refine tks 7 (oi := ⟨some 6, _, _, _, _, none⟩) ?_
      simp only [za, zb, zc, zd]
      refine dn ?_
      go_wp2
      refine bodyPost_ret (v := .tuple #[vL none 0 0, vi ki p.2.2, .bool false]) (by simp [results, Tryd.results17, go_sem]) rfl ⟨by first | exact KT2.out.low | exact KT2.out.low.drew, by rw [HR4.out]; rfl⟩
     | some x =>
      rw [hx] at hqd e9
      obtain ⟨X, hX⟩ : ∃ X : ByteArray, X = ⟨x.1.toArray⟩ := ⟨_, rfl⟩
      obtain ⟨k, hk⟩ : ∃ k : Nat, k = a + 1 + x.2 := ⟨_, rfl⟩
      have HR4 : Hid (R = rtk s (k : Int) (L.drop (i + 1)) (A ++ [(3, X, p.2.2)])) := by have := HR3.out; rw [e9] at this; rw [hk, hX]; exact this
      have HQd : Hid (Calls Tryd.prog 33 #[vS s, vi ki p.2.2] wr fun e w' => Below wr.heap.size wr w' ∧ e = zr (.tuple #[vS X, vi ki (k : Int)])) := by rw [hk, hX]; exact hqd
      clear hqd e9 HR3 hx hk hX hp haa hat has
      have hk0 : ¬ (k : Int) < 0 := by omega
      go_wp2_with fail
      refine Calls.mono HQd.out ?_
      rintro e' W2 ⟨hk, rfl⟩
      have KT2 : Hid (TQ w (vL sq sn sc) A W2) := KT.out.below hk
      clear hk KT HQd c0 c1 c2
      obtain ⟨c0, c1, c2, -⟩ := (HP.out.below KT2.out.low).cells HpL.out
      have hbW2 := Nat.lt_of_lt_of_le HP.out.1 KT2.out.low.size
      go_wp2_with (at_builtin; refine Hid.out ?_)
      unfold Hid
      refine wpl_append_new rfl _ _ 51 rfl w.heap.size 59 i0 (.agg #[vi ki 0, vS ByteArray.empty, vi ki 0]) 3 32 Tryd.underlying51 hi0 iz0 iz1 iz2 rfl (by decide) _ A.length (flatT A) rfl ((KT2.out.below ((Below.refl _ W2).alloc (Nat.le_refl _) _)).own) ⟨W2.heap.size, 0, none⟩ 1 [vi ki 3, vS X, vi ki p.2.2] rfl rfl (part_new _ _ _ _ _) (part_one _ _ _) (by unfold maxLen; omega) (by omega) (by have := KT2.out.low.size; simp; omega) ?_
      intro v' w4 hown' hgrow hnew
      have HF : Hid _ := (KT2.out.below ((Below.refl _ W2).alloc (Nat.le_refl _) _)).more (p := (3, X, p.2.2)) hgrow hown'
      obtain ⟨sq', sn', sc', hv'⟩ := own_form hown'
      subst hv'
      clear hown' hgrow hnew KT2
      go_wp2_with fail
      go_roundw
      case rel => exact ⟨i + 1, A ++ [(3, X, p.2.2)], (k : Int), sq', sn', sc', rfl, rfl, by go_num, by omega, by simp; omega, HF, HR4⟩
      case measure => simp [intOf]; omega
    | false =>
     have hq1 : (p.2.1.toList == [39]) = false := (lit_eq _ [39]).trans hq
     have hsz := HO.out i p hp hq
     obtain ⟨t, ht⟩ : ∃ t, t = oneT p (L.drop (i + 1)) := ⟨_, rfl⟩
     have hta : t.2.2 = p.2.2 := by rw [ht]; unfold oneT; split; rfl; split <;> rfl
     rw [← ht] at hsz
     have HR3 : Hid (R = rtk s (t.2.2 + (t.2.1.size : Int)) (L.drop (i + 1)) (A ++ [t])) := by have := HR1.out; rw [hq, if_neg (by simp), ← ht, ← hta] at this; exact this
     have h1c := one_any b cap i L p hp wr (HP.out.below KT.out.low)
     rw [← ht] at h1c
     have HOn : Hid _ := h1c
     have ha0 : 0 ≤ t.2.2 := by omega
     have ha1 : t.2.2 ≤ 4096 := by omega
     have htw : IntKind.i64.wrap (t.2.2 + (t.2.1.size : Int)) = t.2.2 + (t.2.1.size : Int) := by rw [IntKind.wrap_i64]; omega
     clear h1c HR1 hq ht hta hp haa has
     go_wp2_with fail
     refine Calls.mono HOn.out ?_
     rintro e' W2 ⟨rfl, hk⟩
     have KT2 : Hid (TQ w (vL sq sn sc) A W2) := KT.out.below hk
     clear hk KT HOn c0 c1 c2
     go_upto_region 14 with fail
     have X2 : Hid (TQ w (vL sq sn sc) A (W2.alloc (.cells #[vi ki t.1, vS t.2.1, vi ki t.2.2] 59)) ∧ Bx (W2.alloc (.cells #[vi ki t.1, vS t.2.1, vi ki t.2.2] 59)) W2.heap.size [vi ki t.1, vS t.2.1, vi ki t.2.2]) := ⟨KT2.out.below ((Below.refl _ W2).alloc (Nat.le_refl _) _), Bx.new W2 [vi ki t.1, vS t.2.1, vi ki t.2.2] _⟩
     obtain ⟨B, hB⟩ : ∃ B, B = W2.heap.size := ⟨_, rfl⟩
     have HBo : Hid ((Value.slice sq sn sc).ownBlock ≠ some B) := fun e => by have := (ob_lt KT2.out.own e).2; omega
     rw [← hB] at X2
     rw [← hB]
     clear hB KT2
     refine gen_to (fun V => TQ w (vL sq sn sc) A V ∧ Bx V B [vi ki t.1, vS t.2.1, vi ki t.2.2]) X2.out ?_
     clear X2
     rintro W3 ⟨k1, k2⟩
     have KT3 : Hid (TQ w (vL sq sn sc) A W3) := k1
     have HBx : Hid (Bx W3 B [vi ki t.1, vS t.2.1, vi ki t.2.2]) := k2
     clear k1 k2
     have b0 := HBx.out.c 0 rfl
     have b1 := HBx.out.c 1 rfl
     have b2 := HBx.out.c 2 rfl
     have b9 := HBx.out.1
     go_wp2_with (at_builtin; refine Hid.out ?_)
     unfold Hid
     refine wpl_append_new rfl _ _ 51 rfl w.heap.size 59 i0 (.agg #[vi ki 0, vS ByteArray.empty, vi ki 0]) 3 32 Tryd.underlying51 hi0 iz0 iz1 iz2 rfl (by decide) _ A.length (flatT A) rfl ((KT3.out.below ((Below.refl _ W3).alloc (Nat.le_refl _) _)).own) ⟨W3.heap.size, 0, none⟩ 1 [vi ki t.1, vS t.2.1, vi ki t.2.2] rfl rfl (part_new _ _ _ _ _) (part_one _ _ _) (by unfold maxLen; omega) (by omega) (by have := KT3.out.low.size; simp; omega) ?_
     intro v' w4 hown' hgrow hnew
     have HF : Hid _ := (KT3.out.below ((Below.refl _ W3).alloc (Nat.le_refl _) _)).more (p := t) hgrow hown'
     have HB4 : Hid (Bx w4 B [vi ki t.1, vS t.2.1, vi ki t.2.2]) := grow_bx hgrow (HBx.out.alloc _) HBo.out
     obtain ⟨sq', sn', sc', hv'⟩ := own_form hown'
     subst hv'
     clear hown' hgrow hnew KT3
     clear b0 b1 b2 b9 HBx
     have b1 := HB4.out.c 1 rfl
     have b2 := HB4.out.c 2 rfl
     have b9 := HB4.out.1
     go_wp2_with fail
     go_roundw
     case rel => exact ⟨i + 1, A ++ [t], t.2.2 + (t.2.1.size : Int), sq', sn', sc', rfl, rfl, by go_num, by omega, by simp; omega, HF, HR3⟩
     case measure => simp [intOf]; omega
  ·obtain rfl : i = L.length := by omega
   have hltI : ¬ (L.length : Int) < (L.length : Int) := by omega
   have HR2 : Hid (R = .inr (A ++ [(5, ⟨#[]⟩, (s.size : Int))])) := by have := KR.out; rw [List.drop_length] at this; exact this
   clear KR
   go_wp2_with (at_builtin; refine Hid.out ?_)
   unfold Hid
   refine wpl_append_new rfl _ _ 51 rfl w.heap.size 59 i0 (.agg #[vi ki 0, vS ByteArray.empty, vi ki 0]) 3 32 Tryd.underlying51 hi0 iz0 iz1 iz2 rfl (by decide) _ A.length (flatT A) rfl ((KT.out.below ((Below.refl _ wr).alloc (Nat.le_refl _) _)).own) ⟨wr.heap.size, 0, none⟩ 1 [vi ki 5, vS ⟨#[]⟩, vi ki (s.size : Int)] rfl rfl (part_new _ _ _ _ _) (part_one _ _ _) (by unfold maxLen; omega) (by omega) (by have := KT.out.low.size; simp; omega) ?_
   intro v' w4 hown' hgrow hnew
   have HF : Hid _ := (KT.out.below ((Below.refl _ wr).alloc (Nat.le_refl _) _)).more (p := (5, ⟨#[]⟩, (s.size : Int))) hgrow hown'
   obtain ⟨sq', sn', sc', hv'⟩ := own_form hown'
   subst hv'
   clear hown' hgrow hnew KT
   go_wp2
   exact bodyPost_ret (v := .tuple #[vL sq' sn' sc', vi ki 0, .bool true]) (by simp [results, Tryd.results17, go_sem]) rfl ⟨HF.out.low, by rw [HR2.out]; exact ⟨_, rfl, HF.out.own⟩⟩
theorem sg_find {q : Tk} (tag : Int) : ∀ (L : List ByteArray), (∀ s ∈ L, sgB q s = isT (mT q) [(tag, s)]) → L.find? (fun s => sgB q s) = if isT (mT q) (L.map (fun s => (tag, s))) = true then some (mT q).2.1 else none
 | [], h => rfl
 | s :: L, h => by
  have h1 := h s List.mem_cons_self
  have ih := sg_find tag L (fun x hx => h x (List.mem_cons_of_mem _ hx))
  rw [isT_one] at h1
  have e : isT (mT q) ((s :: L).map (fun s => (tag, s))) = (decide ((mT q).1 = tag ∧ (mT q).2.1 = s) || isT (mT q) (L.map (fun s => (tag, s)))) := by simp [isT]
  rw [e]
  by_cases hs : (mT q).1 = tag ∧ (mT q).2.1 = s
  ·rw [decide_eq_true hs] at h1
   rw [List.find?_cons_of_pos h1, if_pos (by simp [hs]), hs.2]
  ·rw [decide_eq_false hs] at h1
   rw [List.find?_cons_of_neg (by rw [h1]; simp), ih, decide_eq_false hs, Bool.false_or]
theorem sgs_0 : sgs 0 = (sgW 0).map (fun s => (4, s)) := rfl
theorem sgs_1 : sgs 1 = (sgW 1).map (fun s => (4, s)) := rfl
theorem sgs_3 : sgs 3 = (sgW 3).map (fun s => (5, s)) := rfl
theorem sgs_4 : sgs 4 = (sgW 4).map (fun s => (5, s)) := rfl
theorem sgs_5 : sgs 5 = (sgW 5).map (fun s => (5, s)) := rfl
theorem sgW_word {lev : Nat} (h : lev = 0 ∨ lev = 1 ∨ lev = 7) : ∀ s ∈ sgW lev, s ∈ wrdL := by
 intro s hs
 rcases h with rfl | rfl | rfl <;> (simp only [sgW, List.mem_cons, List.not_mem_nil, or_false] at hs; subst hs; unfold wrdL; simp)
theorem sgW_sign {lev : Nat} (h : lev = 3 ∨ lev = 4 ∨ lev = 5) : ∀ s ∈ sgW lev, s ∈ sgnL := by
 intro s hs
 rcases h with rfl | rfl | rfl <;> simp only [sgW, List.mem_cons, List.not_mem_nil, or_false] at hs
 ·rcases hs with rfl | rfl | rfl | rfl | rfl | rfl <;> (unfold sgnL; simp)
 ·rcases hs with rfl | rfl <;> (unfold sgnL; simp)
 ·rcases hs with rfl | rfl | rfl <;> (unfold sgnL; simp)
theorem line_find {q : Tk} (h : GoodT q) {lev : Nat} (hl : lev = 0 ∨ lev = 1 ∨ lev = 3 ∨ lev = 4 ∨ lev = 5) : (sgW lev).find? (fun s => sgB q s) = if isT (mT q) (sgs lev) = true then some (mT q).2.1 else none := by
 rcases hl with rfl | rfl | rfl | rfl | rfl
 ·rw [sgs_0]; exact sg_find 4 _ (fun s hs => sg_word h (sgW_word (.inl rfl) s hs))
 ·rw [sgs_1]; exact sg_find 4 _ (fun s hs => sg_word h (sgW_word (.inr (.inl rfl)) s hs))
 ·rw [sgs_3]; exact sg_find 5 _ (fun s hs => sg_sign h (sgW_sign (.inl rfl) s hs))
 ·rw [sgs_4]; exact sg_find 5 _ (fun s hs => sg_sign h (sgW_sign (.inr (.inl rfl)) s hs))
 ·rw [sgs_5]; exact sg_find 5 _ (fun s hs => sg_sign h (sgW_sign (.inr (.inr rfl)) s hs))
theorem row_two {V : World} {base : Nat} {X : Nat → Prop} {v : Value} {n m : Nd} {c0 c1 c2 c3 d0 d1 d2 d3 : Value} (h : V.ownsRow base 30 4 v 2 [c0, c1, c2, c3, d0, d1, d2, d3]) (hn : NdAt X V n [c0, c1, c2, c3]) (hm : NdAt X V m [d0, d1, d2, d3]) :
  ∃ R cap, v = vL (some ⟨R, 0, none⟩) 2 cap ∧ 2 ≤ cap ∧ cap ≤ maxLen ∧ base ≤ R ∧ R < V.heap.size ∧ RwAt X V R 0 [n, m] := by
 rcases h.2 with ⟨_, z⟩ | ⟨R, cap, cur, e, h1, h2, h3, h4, _⟩
 ·cases z
 ·subst e
  refine ⟨R, cap, rfl, h3, h4, h1, (Array.getElem?_eq_some_iff.1 h2).1, ?_⟩
  have c := fun j hj => h.cellAt j hj
  rw [RwAt]
  exact ⟨⟨c0, c1, c2, c3, c 0 (by omega), c 1 (by omega), c 2 (by omega), c 3 (by omega), hn⟩, by rw [RwAt]; exact ⟨⟨d0, d1, d2, d3, c 4 (by omega), c 5 (by omega), c 6 (by omega), c 7 (by omega), hm⟩, by rw [RwAt]; trivial⟩⟩
def LREL (g b cap : Nat) (T : List Tk) (w : World) (B d N : Nat) (G : Nat → Nd → List Tk → PR) (R : PR) (V : World) : Prop :=
 (∃ (L : List Tk) (f1 : Nat) (n : Nd) (k : Int) (u : ByteArray) (sq : Option Addr) (sn sc : Nat) (a : Int), Hid (CR g b cap T w B d L n (vi ki k) (vS u) (vL sq sn sc) (vi ki a) V) ∧ L.length ≤ N ∧ Hid (10 * L.length + 1 ≤ f1) ∧ Hid (G f1 n (mL L) = R)) ∨
 (∃ (ea er : Int) (Z : Nat) (k : Int) (u : ByteArray) (sq : Option Addr) (sn sc : Nat) (a : Int), Hid (Kp g w V ∧ Bx V w.heap.size Z4 ∧ Bx V B [vi ki k, vS u, vL sq sn sc, vi ki a] ∧ RF g b Z V ea er) ∧ Hid (R = .no ea er) ∧ er ≠ 0 ∧ w.heap.size < Z)
theorem rsigns_at (lev : Nat) (hl : lev = 0 ∨ lev = 1 ∨ lev = 3 ∨ lev = 4 ∨ lev = 5 ∨ lev = 7) (w : World) :
  Calls Tryd.prog 38 #[vi ki (lev : Int)] w fun e w' => ∃ c, e = zr (vL (some ⟨c, 0, none⟩) (sgW lev).length (sgW lev).length) ∧ w.heap.size ≤ c ∧ Below w.heap.size w w' ∧ Bx w' c (sTx (sgW lev)) :=
 (rsigns_any lev hl w).mono (by rintro e w' ⟨rfl, rfl⟩; exact ⟨_, rfl, Nat.le_refl _, (Below.refl _ _).alloc (Nat.le_refl _) _, Bx.new w _ _⟩)
theorem find_at {α : Type} {p : α → Bool} {L : List α} {j : Nat} {x : α} (h : L[j]? = some x) : (L.drop j).find? p = if p x = true then some x else (L.drop (j + 1)).find? p := by
 have hj := (List.getElem?_eq_some_iff.1 h).1
 have e := (List.getElem?_eq_some_iff.1 h).2
 rw [List.drop_eq_getElem_cons hj, e]
 by_cases q : p x = true
 ·rw [List.find?_cons_of_pos q, if_pos q]
 ·rw [List.find?_cons_of_neg q, if_neg q]
theorem find_yes {FD : Option ByteArray} {t : Bool} {x s : ByteArray} (h : FD = if t = true then some x else none) (h2 : FD = some s) : t = true ∧ s = x := by
 rw [h2] at h
 by_cases q : t = true
 ·rw [if_pos q] at h; exact ⟨q, by cases h; rfl⟩
 ·rw [if_neg q] at h; cases h
theorem find_no {FD : Option ByteArray} {t : Bool} {x : ByteArray} (h : FD = if t = true then some x else none) (h2 : FD = none) : t = false := by
 rw [h2] at h
 by_cases q : t = true
 ·rw [if_pos q] at h; cases h
 ·exact Bool.eq_false_iff.2 q
theorem sgs_txt {p : Tk} {lev : Nat} (hl : lev = 0 ∨ lev = 1 ∨ lev = 3 ∨ lev = 4 ∨ lev = 5) (h : isT p (sgs lev) = true) : p.2.1 ≠ ⟨#[]⟩ ∧ p.2.1 ≠ atB := by
 obtain ⟨x, hx, hd⟩ := List.any_eq_true.1 h
 have e := (of_decide_eq_true hd).2
 rw [e]
 rcases hl with rfl | rfl | rfl | rfl | rfl <;> simp only [sgs, List.mem_cons, List.not_mem_nil, or_false] at hx
 ·subst hx; decide +kernel
 ·subst hx; decide +kernel
 ·rcases hx with rfl | rfl | rfl | rfl | rfl | rfl <;> decide +kernel
 ·rcases hx with rfl | rfl <;> decide +kernel
 ·rcases hx with rfl | rfl | rfl <;> decide +kernel
def GG (lev d : Nat) : Nat → Nd → List Tk → PR
 | 0, _, _ => .no 0 0
 | f + 1, n, l => if lev = 3 then cmpK (par f) d n l else par (f + 1) (.lp lev n) d l
def lnK (f lev d : Nat) : PR → PR
 | .no a e => .no a e
 | .ok n l1 => GG lev d (if lev = 3 then f + 1 else f) n l1
theorem ln_eq (f lev d : Nat) (hl : lev = 0 ∨ lev = 1 ∨ lev = 3 ∨ lev = 4 ∨ lev = 5) (p : Tk) (l : List Tk) : par (f + 1) (.lv lev) d (p :: l) = lnK f lev d (par f (.lv (lev + 1)) d (p :: l)) := by
 rw [par_succ]; unfold pst; dsimp only
 by_cases h3 : lev = 3
 ·subst h3
  rw [if_neg (by omega), if_neg (by omega), if_pos rfl]
  cases par f (.lv 4) d (p :: l) <;> rfl
 ·rw [if_neg (by omega), if_neg (by omega), if_neg h3, if_neg (by omega), if_neg (by omega), if_neg (by omega)]
  cases par f (.lv (lev + 1)) d (p :: l) with
  | no a e => rfl
  | ok n l1 => rw [lnK]; rw [if_neg h3]; cases f with
   | zero => rfl
   | succ f => rw [GG, if_neg h3]
def xG (f lev d : Nat) (n : Nd) (s : ByteArray) (a : Int) : PR → PR
 | .no a e => .no a e
 | .ok m l1 => if lev = 3 then .ok (.mk 8 s [n, m] a) l1 else GG lev d f (.mk 8 s [n, m] a) l1
theorem gg_yes (f lev d : Nat) (n : Nd) {q : Tk} {l : List Tk} (h : isT q (sgs lev) = true) : GG lev d (f + 1) n (q :: l) = xG f lev d n q.2.1 q.2.2 (par f (.lv (lev + 1)) d l) := by
 rw [GG]
 by_cases h3 : lev = 3
 ·subst h3
  rw [if_pos rfl]; unfold cmpK; dsimp only; rw [if_pos h]
  cases par f (.lv 4) d l <;> rfl
 ·rw [if_neg h3, par_succ]; unfold pst; dsimp only
  rw [if_pos h]
  cases par f (.lv (lev + 1)) d l with
  | no a e => rfl
  | ok m l1 => rw [xG, if_neg h3]; cases f with
   | zero => rfl
   | succ f => rw [GG, if_neg h3]
theorem gg_no (f lev d : Nat) (n : Nd) {q : Tk} {l : List Tk} (h : isT q (sgs lev) = false) : GG lev d (f + 1) n (q :: l) = .ok n (q :: l) := by
 rw [GG]
 by_cases h3 : lev = 3
 ·subst h3
  rw [if_pos rfl]; unfold cmpK; dsimp only; rw [if_neg (by simp [h])]
 ·rw [if_neg h3, par_succ]; unfold pst; dsimp only
  rw [if_neg (by simp [h])]
def xZ (f d : Nat) (n : Nd) (a : Int) : PR → PR
 | .no a e => .no a e
 | .ok m l1 => par f (.zs (.mk 8 atzB [n, m] a)) d l1
def XM (g b cap : Nat) (T : List Tk) (w : World) (B d : Nat) (L : List Tk) (n : Nd) (c0 c1 c2 c3 : Value) (C : Nat) (s : ByteArray) (at_ : Int) (V : World) : Prop :=
 CR g b cap T w B d L n c0 c1 c2 c3 V ∧ Bx V C [vi ki 8, vS s, vL none 0 0, vi ki at_] ∧ NdAt (fun c => w.heap.size + 1 ≤ c ∧ c ≠ B ∧ c < C) V n [c0, c1, c2, c3] ∧ B < C
theorem XM.start {g b cap : Nat} {T : List Tk} {w : World} {B d : Nat} {L : List Tk} {n : Nd} {c0 c1 c2 c3 : Value} {s : ByteArray} {at_ : Int} {t : TypeId} {V : World} (h : CR g b cap T w B d L n c0 c1 c2 c3 V) (hg : g < w.heap.size) : XM g b cap T w B d L n c0 c1 c2 c3 V.heap.size s at_ (V.alloc (.cells #[vi ki 8, vS s, vL none 0 0, vi ki at_] t)) := by
 have hb : Below V.heap.size V (V.alloc (.cells #[vi ki 8, vS s, vL none 0 0, vi ki at_] t)) := (Below.refl _ _).alloc (Nat.le_refl _) _
 exact ⟨h.kp hg (Kp.of hb) (h.2.2.2.1.below hb) h.2.2.2.2.2.2, Bx.new V [vi ki 8, vS s, vL none 0 0, vi ki at_] t, NdAt.keep (by simp) (fun c hc hl => ⟨⟨hc.1, hc.2, hl⟩, hb.block c hl⟩) _ _ h.2.2.2.2.1, h.2.2.1.1⟩
theorem XM.drew {g b cap : Nat} {T : List Tk} {w : World} {B d : Nat} {L : List Tk} {n : Nd} {c0 c1 c2 c3 : Value} {C : Nat} {s : ByteArray} {at_ : Int} {V : World} (h : XM g b cap T w B d L n c0 c1 c2 c3 C s at_ V) : XM g b cap T w B d L n c0 c1 c2 c3 C s at_ V.drew :=
 ⟨h.1.drew, h.2.1, h.2.2.1.drewR, h.2.2.2⟩
theorem XM.kp {g b cap : Nat} {T : List Tk} {w : World} {B d : Nat} {L L' : List Tk} {n : Nd} {c0 c1 c2 c3 : Value} {C : Nat} {s : ByteArray} {at_ : Int} {V V' : World} (h : XM g b cap T w B d L n c0 c1 c2 c3 C s at_ V) (hg : g < w.heap.size) (hk : Kp g V V') (hp : RS g b cap T V' L' d) (he : EndL (mL L')) : XM g b cap T w B d L' n c0 c1 c2 c3 C s at_ V' :=
 ⟨h.1.kp hg hk hp he, hk.bx h.2.1 (by have := h.2.2.2; have := h.1.2.2.2.2.2.1; omega), h.2.2.1.kp hk (fun c hc => ⟨hc, by omega⟩), h.2.2.2⟩
theorem XM.below {g b cap : Nat} {T : List Tk} {w : World} {B d : Nat} {L : List Tk} {n : Nd} {c0 c1 c2 c3 : Value} {C : Nat} {s : ByteArray} {at_ : Int} {V V' : World} (h : XM g b cap T w B d L n c0 c1 c2 c3 C s at_ V) (hg : g < w.heap.size) (hb : Below V.heap.size V V') : XM g b cap T w B d L n c0 c1 c2 c3 C s at_ V' :=
 h.kp hg (Kp.of hb) (h.1.2.2.2.1.below hb) h.1.2.2.2.2.2.2
def XD (g b cap : Nat) (T : List Tk) (w : World) (B d : Nat) (L : List Tk) (n m : Nd) (c0 c1 c2 c3 : Value) (C : Nat) (s : ByteArray) (at_ : Int) (sv : Value) (V : World) : Prop :=
 CR g b cap T w B d L n c0 c1 c2 c3 V ∧ Bx V C [vi ki 8, vS s, sv, vi ki at_] ∧ NdAt (fun c => w.heap.size + 1 ≤ c ∧ c ≠ B ∧ c ≠ C) V (.mk 8 s [n, m] at_) [vi ki 8, vS s, sv, vi ki at_] ∧ B < C
theorem XM.done {g b cap : Nat} {T : List Tk} {w : World} {B d : Nat} {L : List Tk} {n m : Nd} {c0 c1 c2 c3 d0 d1 d2 d3 : Value} {C : Nat} {s : ByteArray} {at_ : Int} {v : Value} {base : Nat} {V : World} (h : XM g b cap T w B d L n c0 c1 c2 c3 C s at_ V) (hg : g < w.heap.size) (hbl : b < w.heap.size)
  (hm : NdAt (fun c => C + 1 ≤ c) V m [d0, d1, d2, d3]) (ho : V.ownsRow base 30 4 v 2 [c0, c1, c2, c3, d0, d1, d2, d3]) (hbase : C < base) :
  ∃ R cp, v = vL (some ⟨R, 0, none⟩) 2 cp ∧ XD g b cap T w B d L n m c0 c1 c2 c3 C s at_ (vL (some ⟨R, 0, none⟩) 2 cp) (V.setCell ⟨C, 2, none⟩ (vL (some ⟨R, 0, none⟩) 2 cp)) := by
 have hC := h.2.2.2
 have hB := h.1.2.2.2.2.2.1
 have hn2 : NdAt (fun c => w.heap.size + 1 ≤ c ∧ c ≠ B ∧ c ≠ C) V n [c0, c1, c2, c3] := NdAt.keep (Nat.le_refl _) (fun c hc _ => ⟨⟨hc.1, hc.2.1, by have := hc.2.2; omega⟩, rfl⟩) _ _ h.2.2.1
 have hm2 : NdAt (fun c => w.heap.size + 1 ≤ c ∧ c ≠ B ∧ c ≠ C) V m [d0, d1, d2, d3] := NdAt.keep (Nat.le_refl _) (fun c hc _ => ⟨⟨by omega, by omega, by omega⟩, rfl⟩) _ _ hm
 obtain ⟨R, cp, rfl, h1, h2, h3, h4, h5⟩ := row_two ho hn2 hm2
 have hoff : ∀ c, c < V.heap.size → c ≠ C → (V.setCell ⟨C, 2, none⟩ (vL (some ⟨R, 0, none⟩) 2 cp)).heap[c]? = V.heap[c]? := fun c _ hc => Below.heap_setCell _ _ _ _ hc
 have hnn : NdAt (fun c => w.heap.size + 1 ≤ c ∧ c ≠ B ∧ c ≠ C) V (.mk 8 s [n, m] at_) [vi ki 8, vS s, vL (some ⟨R, 0, none⟩) 2 cp, vi ki at_] := NdAt.row (ks := [n, m]) (by simp) h1 h2 ⟨by omega, by omega, by omega⟩ h4 h5
 have hz := h.1.1.size
 refine ⟨R, cp, rfl, ⟨h.1.1.set (p := ⟨C, 2, none⟩) (.inr (by show _ ≤ C; omega)) _, h.1.2.1.setOther (by omega) [_] 2, h.1.2.2.1.setOther (by omega) [_] 2, h.1.2.2.2.1.off (r := C) hoff (by simp) (by omega) (by omega), h.2.2.1.off (r := C) hoff (by simp) (fun c hc => ⟨⟨hc.1, hc.2.1⟩, by have := hc.2.2; omega⟩), hB, h.1.2.2.2.2.2.2⟩, h.2.1.set1 2 _ (by simp), hnn.off (r := C) hoff (by simp) (fun c hc => ⟨hc, hc.2.2⟩), hC⟩
theorem XD.put {g b cap : Nat} {T : List Tk} {w : World} {B d : Nat} {L : List Tk} {n m : Nd} {c0 c1 c2 c3 : Value} {C : Nat} {s : ByteArray} {at_ : Int} {sv : Value} {V : World} (h : XD g b cap T w B d L n m c0 c1 c2 c3 C s at_ sv V) (hg : g < w.heap.size) (hbl : b < w.heap.size) :
  CR g b cap T w B d L (.mk 8 s [n, m] at_) (vi ki 8) (vS s) sv (vi ki at_) (V.setCells B 0 [vi ki 8, vS s, sv, vi ki at_]) :=
 h.1.put hg hbl (Kp.refl g V) h.1.2.2.2.1 h.1.2.2.2.2.2.2 (NdAt.keep (Nat.le_refl _) (fun c hc _ => ⟨.inl ⟨hc.1, hc.2.1⟩, rfl⟩) _ _ h.2.2.1)
def XF (g b : Nat) (w : World) (B : Nat) (c0 c1 c2 c3 : Value) (C : Nat) (s : ByteArray) (at_ : Int) (sv : Value) (ea er : Int) (V : World) : Prop :=
 Kp g w V ∧ Bx V w.heap.size Z4 ∧ Bx V B [c0, c1, c2, c3] ∧ Bx V C [vi ki 8, vS s, sv, vi ki at_] ∧ RF g b (C + 1) V ea er ∧ w.heap.size + 1 ≤ B ∧ B < C
theorem XM.fail {g b cap : Nat} {T : List Tk} {w : World} {B d : Nat} {L : List Tk} {n : Nd} {c0 c1 c2 c3 : Value} {C : Nat} {s : ByteArray} {at_ ea er : Int} {V V' : World} (h : XM g b cap T w B d L n c0 c1 c2 c3 C s at_ V) (hg : g < w.heap.size) (hk : Kp g V V') (hf : RF g b V.heap.size V' ea er) : XF g b w B c0 c1 c2 c3 C s at_ (vL none 0 0) ea er V' := by
 have hC := h.2.2.2
 have hB := h.1.2.2.2.2.2.1
 exact ⟨h.1.1.trans hk, hk.bx h.1.2.1 (by omega), hk.bx h.1.2.2.1 (by omega), hk.bx h.2.1 (by omega), hf.mono h.2.1.1, hB, hC⟩
theorem XF.below {g b : Nat} {w : World} {B : Nat} {c0 c1 c2 c3 : Value} {C : Nat} {s : ByteArray} {at_ : Int} {sv : Value} {ea er : Int} {V V' : World} (h : XF g b w B c0 c1 c2 c3 C s at_ sv ea er V) (hb : Below V.heap.size V V') : XF g b w B c0 c1 c2 c3 C s at_ sv ea er V' :=
 ⟨h.1.trans (Kp.of hb), h.2.1.below hb, h.2.2.1.below hb, h.2.2.2.1.below hb, h.2.2.2.2.1.below hb, h.2.2.2.2.2⟩
theorem XF.store {g b : Nat} {w : World} {B : Nat} {c0 c1 c2 c3 : Value} {C : Nat} {s : ByteArray} {at_ : Int} {sv sv' : Value} {ea er : Int} {V : World} (h : XF g b w B c0 c1 c2 c3 C s at_ sv ea er V) (hg : g < w.heap.size) (hbl : b < w.heap.size) : XF g b w B c0 c1 c2 c3 C s at_ sv' ea er (V.setCell ⟨C, 2, none⟩ sv') := by
 obtain ⟨h1, h2, h3, h4, h5, h6, h7⟩ := h
 have hoff : ∀ c, c < V.heap.size → c ≠ C → (V.setCell ⟨C, 2, none⟩ sv').heap[c]? = V.heap[c]? := fun c _ hc => Below.heap_setCell _ _ _ _ hc
 exact ⟨h1.set (p := ⟨C, 2, none⟩) (.inr (by show _ ≤ C; omega)) _, h2.setOther (by omega) [_] 2, h3.setOther (by omega) [_] 2, h4.set1 2 _ (by simp), h5.off (r := C) hoff (by simp) (by omega) (by omega) (by omega), h6, h7⟩
theorem XF.put {g b : Nat} {w : World} {B : Nat} {c0 c1 c2 c3 : Value} {C : Nat} {s : ByteArray} {at_ : Int} {sv : Value} {ea er : Int} {V : World} (h : XF g b w B c0 c1 c2 c3 C s at_ sv ea er V) (hg : g < w.heap.size) (hbl : b < w.heap.size) (v0 v1 v2 v3 : Value) :
  Kp g w (V.setCells B 0 [v0, v1, v2, v3]) ∧ Bx (V.setCells B 0 [v0, v1, v2, v3]) w.heap.size Z4 ∧ Bx (V.setCells B 0 [v0, v1, v2, v3]) B [v0, v1, v2, v3] ∧ RF g b (C + 1) (V.setCells B 0 [v0, v1, v2, v3]) ea er := by
 obtain ⟨h1, h2, h3, h4, h5, h6, h7⟩ := h
 obtain ⟨q1, q2, q3, q4⟩ := fin4 [] v0 v1 v2 v3 h1 (by omega) h3
 exact ⟨q1, h2.setOther (by omega) _, q2, h5.off q3 q4 (by omega) (by omega) (by omega)⟩
theorem rlv_lp (g b cap : Nat) (T : List Tk) (hG : Hid (∀ x ∈ T, GoodT x)) (N lev : Nat) (hlev : lev = 0 ∨ lev = 1 ∨ lev = 3 ∨ lev = 4 ∨ lev = 5) (HA : Hid (RLv g b cap T (lev + 1) N)) : RLv g b cap T lev N := by
 intro w L d f h hL hd hN hf
 obtain ⟨i0, hi0, iz0, iz1, iz2⟩ := info_parts infoNode22
 obtain ⟨r, l, rfl⟩ := mL_none hL
 obtain ⟨f, rfl⟩ : ∃ f', f = f' + 1 := ⟨f - 1, by simp only [need, mL_cons, zl] at hf; omega⟩
 simp only [need, mL_cons, zl, mL_len] at hf hN
 have HL := hZz hL
 have HV := hZz hlev
 have hlev5 : lev ≤ 5 := by omega
 have hl2 : ((lev : Int) == 2) = false := by rw [beq_eq_false_iff_ne]; omega
 have hl6 : ((lev : Int) == 6) = false := by rw [beq_eq_false_iff_ne]; omega
 have hl8 : ((lev : Int) == 8) = false := by rw [beq_eq_false_iff_ne]; omega
 have hlw : IntKind.i64.wrap ((lev : Int) + 1) = (lev : Int) + 1 := by rw [IntKind.wrap_i64]; omega
 clear hlev
 obtain ⟨R, hR⟩ : ∃ R, par (f + 1) (.lv lev) d (mL (r :: l)) = R := ⟨_, rfl⟩
 rw [hR]
 rw [mL_cons, ln_eq f lev d HV.out] at hR
 have HRR := hZz hR
 clear hR hL
 have hg := h.lt
 have hbl := h.tr.1
 have HP := hZz h
 have HCC : Hid (∀ V : World, RS g b cap T V (r :: l) d → Calls Tryd.prog 18 #[.pointer (some ⟨g, 0, none⟩), vi ki ((lev : Int) + 1)] V fun e w' => Kp g V w' ∧ ROut g b V.heap.size cap T (fun c => V.heap.size ≤ c) w' d e (par f (.lv (lev + 1)) d (mT r :: mL l))) := fun V hV => HA.out V (r :: l) d f hV HL.out hd (by simp only [zl]; omega) (by simp only [need, mL_cons, zl, mL_len]; omega)
 obtain ⟨pre, pa, cg0, cg1, cg2, fg0, fg1, t0, t1, t2, hgW, hbW, hlen, hmost, hle, hne, HEQ, HBX, HTR⟩ := RS.facts (h)
 clear h
 go_enter Tryd.func18, Tryd.ntmps18
 go_upto_region 20 with fail
 have B0 := bsn1 w [vi ki 0, vS ⟨#[]⟩, vL none 0 0, vi ki 0] 30
 have HP0 : Hid (RS g b cap T (w.alloc (.cells #[vi ki 0, vS ⟨#[]⟩, vL none 0 0, vi ki 0] 30)) (r :: l) d) := HP.out.below B0.out.1
 clear cg0 cg1 cg2 fg0 fg1 t0 t1 t2 hgW hbW hlen hmost hle HEQ HBX HTR hne hl2 hl6 hl8
 go_cut [9] from 71 to 74 (fun v V => ∃ B, v = .pointer (some ⟨B, 0, none⟩) ∧ w.heap.size + 1 ≤ B ∧ LREL g b cap T w B d N (fun f1 n l => GG lev d f1 n l) R V)
 case first =>
  cases hr : par f (.lv (lev + 1)) d (mT r :: mL l) with
  | no ea er =>
   rw [hr] at HCC
   have HR9 : Hid (R = .no ea er) := by have := HRR.out; rw [hr] at this; exact this.symm
   clear hr HRR
   go_wp2_with fail
   refine (HCC.out _ HP0.out).mono ?_
   rintro e W1 ⟨hk, her, hf1, k9, u9, sq9, sn9, sc9, a9, rfl⟩
   have hz1 : w.heap.size + 1 ≤ W1.heap.size := hzk hk
   have K1 := kpt B0 hk
   have H1 : Hid (Bx W1 w.heap.size [vi ki 0, vS ⟨#[]⟩, vL none 0 0, vi ki 0]) := hk.bx B0.out.first (by omega)
   have F1 : Hid (RF g b (w.heap.size + 1) W1 ea er) := hf1.mono (by simp)
   have HER := hZz her
   clear hk her hf1 B0 HP0 HP HCC
   go_wp2_with fail
   go_meet
   case rel =>
    refine ⟨_, rfl, hz1, Or.inr ⟨ea, er, w.heap.size + 1, k9, u9, sq9, sn9, sc9, a9, ⟨K1.out.alloc _, H1.out.alloc _, Bx.new W1 [vi ki k9, vS u9, vL sq9 sn9 sc9, vi ki a9] _, F1.out.below ((Below.refl _ _).alloc (Nat.le_refl _) _)⟩, HR9, HER.out, by omega⟩⟩
  | ok n l1 =>
   rw [hr] at HCC
   have hls := par_less (g := .lv (lev + 1)) (by simp [okTg]; omega) (show EndL (mT r :: mL l) from HL.out) (by simp only [need, zl, mL_len]; omega) hr
   have hls2 := hls.2
   simp only [most, zl, mL_len] at hls2
   obtain ⟨f1, hf1⟩ : ∃ f1, f1 = if lev = 3 then f + 1 else f := ⟨_, rfl⟩
   have hff1 : f ≤ f1 := by rw [hf1]; split <;> omega
   have HR9 : Hid (GG lev d f1 n l1 = R) := by have := HRR.out; rw [hr, lnK, ← hf1] at this; exact this
   clear hr HRR hls hf1
   go_wp2_with fail
   refine (HCC.out _ HP0.out).mono ?_
   rintro e W1 ⟨hk, L1, rfl, hrs, hend, k9, u9, sq9, sn9, sc9, a9, rfl, hnd⟩
   have hz1 : w.heap.size + 1 ≤ W1.heap.size := hzk hk
   rw [mL_len] at hls2
   have X1 : Hid (CR g b cap T w W1.heap.size d L1 n (vi ki k9) (vS u9) (vL sq9 sn9 sc9) (vi ki a9) (W1.alloc (.cells #[vi ki k9, vS u9, vL sq9 sn9 sc9, vi ki a9] 30))) :=
    ⟨((Kp.of B0.out.1).trans hk).alloc _, (hk.bx B0.out.first (by omega)).alloc _, Bx.new W1 [vi ki k9, vS u9, vL sq9 sn9 sc9, vi ki a9] _, hrs.below ((Below.refl _ _).alloc (Nat.le_refl _) _), NdAt.keep (by simp) (fun c hc hl => ⟨⟨by (try simp at hc); omega, by omega⟩, Below.heap_alloc _ _ _ hl⟩) _ _ hnd, by omega, hend⟩
   clear hk hrs hend hnd B0 HP0 HP HCC
   go_wp2_with fail
   go_meet
   case rel => exact ⟨_, rfl, hz1, Or.inl ⟨L1, f1, n, k9, u9, sq9, sn9, sc9, a9, X1, by omega, (by show _ ≤ _; omega), HR9⟩⟩
 case rest =>
  obtain ⟨B, rfl, hBw, hL0⟩ := hcut
  clear B0 HP0 HP HCC HRR
  go_wp2_with fail
  go_loopw [] (fun V => LREL g b cap T w B d N (fun f1 n l => GG lev d f1 n l) R V) (fun V => msR g V)
  case atStart => exact hL0
  case round =>
   clear hL0
   rcases hrel with ⟨L, f1, n, kn, un, sqn, snn, scn, an, KK, hN2, HF, HKs⟩ | ⟨ea, er, Z, kn, un, sqn, snn, scn, an, KB, HR9, her, hZ⟩
   ·obtain ⟨q, l2, rfl⟩ := mL_none KK.out.2.2.2.2.2.2
    obtain ⟨f2, rfl⟩ : ∃ f', f1 = f' + 1 := ⟨f1 - 1, by have := HF.out; simp only [zl] at this; omega⟩
    have HPL := hZz KK.out.2.2.2.1.msr
    have HGq : Hid (GoodT q) := KK.out.2.2.2.1.good hG.out
    obtain ⟨FD, hFD⟩ : ∃ FD, (sgW lev).find? (fun s => sgB q s) = FD := ⟨_, rfl⟩
    have HFi : Hid (FD = if isT (mT q) (sgs lev) = true then some (mT q).2.1 else none) := hFD.symm.trans (line_find HGq.out HV.out)
    have HFD := hZz hFD
    obtain ⟨KN, hKN⟩ : ∃ KN, KN = (sgW lev).length := ⟨_, rfl⟩
    have hK6 : KN ≤ 6 := by rw [hKN]; rcases HV.out with rfl | rfl | rfl | rfl | rfl <;> decide
    have HKN := hZz hKN
    obtain ⟨pre, pa, cg0, cg1, cg2, fg0, fg1, t0, t1, t2, hgW, hbW, hlen, hmost, hle, hne, HEQ, HBX, HTR⟩ := RS.facts (KK.out.2.2.2.1)
    go_upto_region 24 with fail
    have hwr : w.heap.size < wr.heap.size := KK.out.2.1.1
    clear cg0 cg1 cg2 fg0 fg1 t0 t1 t2 hgW hbW hlen hmost hle HEQ HBX HTR hne
    go_wp2_with fail
    refine Calls.mono (rsigns_at lev (by have := HV.out; omega) wr) ?_
    rw [← hKN]
    rintro e W1 ⟨bs, rfl, hbs, hb1, hx1⟩
    have K1 : Hid (CR g b cap T w B d (q :: l2) n (vi ki kn) (vS un) (vL sqn snn scn) (vi ki an) W1) := KK.out.kp hg (Kp.of hb1) (KK.out.2.2.2.1.below hb1) KK.out.2.2.2.2.2.2
    have X1 := hZz hx1
    have hbg : bs ≠ g := by omega
    clear hb1 hx1 KK hwr hbs hFD hKN
    go_wp2_with fail
    go_loopw [10, 12] (fun sv iv V => ∃ (j : Nat) (L : List Tk), iv = vi ki (j : Int) ∧ j ≤ KN ∧ Hid (CR g b cap T w B d L n (vi ki kn) (vS un) (vL sqn snn scn) (vi ki an) V) ∧ Hid (Bx V bs (sTx (sgW lev))) ∧ ((sv = vS ⟨#[]⟩ ∧ (q :: l2) = L ∧ Hid (((sgW lev).drop j).find? (fun s => sgB q s) = FD)) ∨ (∃ s, sv = vS s ∧ l2 = L ∧ Hid (FD = some s)))) (fun _ iv _ => KN - (intOf iv).toNat)
    case atStart => exact ⟨0, q :: l2, rfl, Nat.zero_le _, K1, X1, Or.inl ⟨rfl, rfl, HFD⟩⟩
    case round =>
     obtain ⟨j, L, rfl, hj, K2, X2, hAB⟩ := hrel
     clear K1 X1 HFD
     rcases hAB with ⟨rfl, rfl, HA2⟩ | ⟨s, rfl, rfl, HS2⟩
     ·by_cases hlt : j < KN
      ·obtain ⟨s1, hs1⟩ : ∃ s1, (sgW lev)[j]? = some s1 := ⟨(sgW lev)[j]'(by have := HKN.out; omega), List.getElem?_eq_getElem _⟩
       have hjI : (j : Int) < (KN : Int) := by omega
       have hj0 : (0 : Int) ≤ (j : Int) := by omega
       have hjw : IntKind.i64.wrap ((j : Int) + 1) = (j : Int) + 1 := by rw [IntKind.wrap_i64]; omega
       have xj := X2.out.c j (v := vS s1) (by unfold sTx; simp [hs1])
       have xh := X2.out.1
       have hfa := find_at (p := fun s => sgB q s) hs1
       have HA3 := HA2.out
       rw [hfa] at HA3
       clear hfa HA2 hs1
       by_cases hsg : sgB q s1 = true
       ·rw [if_pos hsg] at HA3
        have HFS := hZz HA3.symm
        have hT := (find_yes HFi.out HFS.out).1
        have hEl : EndL (mL l2) := EndL.tail K2.out.2.2.2.2.2.2 (isT_kind hT (sgs_kind lev))
        have HSi := rsign_any g b cap T l2 q HGq.out s1 (fun _ => by obtain ⟨y, l9, rfl⟩ := mL_none hEl; simp) d wr K2.out.2.2.2.1
        rw [hsg, if_pos rfl] at HSi
        have HSg : Hid _ := HSi
        have HEl := hZz hEl
        clear HSi HA3 hsg hT hEl
        go_wp2_with fail
        refine Calls.mono HSg.out ?_
        rintro e W3 ⟨rfl, hk3, hr3⟩
        have K3 : Hid (CR g b cap T w B d l2 n (vi ki kn) (vS un) (vL sqn snn scn) (vi ki an) W3) := K2.out.kp hg hk3 hr3 HEl.out
        have X3 : Hid (Bx W3 bs (sTx (sgW lev))) := hk3.bx X2.out hbg
        have xj3 : W3.cell? ⟨bs, j, none⟩ = some (vS s1) := (hk3.cell (p := ⟨bs, j, none⟩) xh hbg).trans xj
        have xh3 := X3.out.1
        clear xj xh hk3 hr3 K2 X2 HSg
        go_wp2_with fail
        exact ⟨⟨j + 1, l2, by go_num, by omega, K3, X3, Or.inr ⟨s1, rfl, rfl, HFS⟩⟩, by simp [intOf]; omega⟩
       ·rw [if_neg hsg] at HA3
        have HA4 := hZz HA3
        rw [Bool.not_eq_true] at hsg
        have HSi := rsign_any g b cap T l2 q HGq.out s1 (fun z => by rw [hsg] at z; cases z) d wr K2.out.2.2.2.1
        rw [hsg, if_neg (by simp)] at HSi
        have HSg : Hid _ := HSi
        clear HSi HA3 hsg
        go_wp2_with fail
        refine Calls.mono HSg.out ?_
        rintro e W3 ⟨rfl, hk3, hr3⟩
        have K3 : Hid (CR g b cap T w B d (q :: l2) n (vi ki kn) (vS un) (vL sqn snn scn) (vi ki an) W3) := K2.out.kp hg hk3 hr3 K2.out.2.2.2.2.2.2
        have X3 : Hid (Bx W3 bs (sTx (sgW lev))) := hk3.bx X2.out hbg
        clear xj xh hk3 hr3 K2 X2 HSg
        go_wp2_with fail
        exact ⟨⟨j + 1, q :: l2, by go_num, by omega, K3, X3, Or.inl ⟨rfl, rfl, HA4⟩⟩, by simp [intOf]; omega⟩
      ·obtain rfl : j = KN := by omega
       have HFN : FD = none := by have := HA2.out; rw [HKN.out, List.drop_length] at this; exact this.symm
       have hT := find_no HFi.out HFN
       have HR9 : Hid (R = .ok n (mL (q :: l2))) := by have e9 := HKs.out; rw [mL_cons] at e9; exact e9.symm.trans (gg_no _ _ _ _ hT)
       clear HFN hT HA2 HKs
       obtain ⟨n0, n1, n2, n3⟩ := K2.out.2.2.1.d4
       have nh := K2.out.2.2.1.1
       obtain ⟨y0', y1', y2', y3', HFK, HFO, HFS, rr0, rr1, rr2, rr3, rf0, rf1, rf2, rf3, hrw'⟩ := fin9 (vi ki kn) (vS un) (vL sqn snn scn) (vi ki an) K2.out.1 (Nat.le_refl _) (K2.out.2.1)
       go_wp2
       refine bodyPost_ret (v := .agg #[vi ki kn, vS un, vL sqn snn scn, vi ki an]) (by simp [results, Tryd.results18, go_sem, y0', y1', y2', y3']) rfl ⟨HFK.out, by rw [HR9.out]; exact ⟨q :: l2, rfl, K2.out.2.2.2.1.off HFO.out HFS.out (by omega) (by omega), K2.out.2.2.2.2.2.2, _, _, _, _, _, _, rfl, K2.out.2.2.2.2.1.off HFO.out HFS.out (fun c hc => ⟨by omega, by omega⟩)⟩⟩
     ·obtain ⟨hT, hs⟩ := find_yes HFi.out HS2.out
      obtain ⟨hs0, hsa⟩ := sgs_txt HV.out hT
      rw [← hs] at hs0 hsa
      obtain ⟨p, l3, rfl⟩ := mL_none K2.out.2.2.2.2.2.2
      have HE2 := hZz K2.out.2.2.2.2.2.2
      have e1 : (s.toList == []) = false := (lit_eq _ []).trans (decide_eq_false hs0)
      have e2 : (s.toList == [97, 116]) = false := (lit_eq _ [97, 116]).trans (decide_eq_false hsa)
      have HK2 : Hid (xG f2 lev d n s q.2.2 (par f2 (.lv (lev + 1)) d (mT p :: mL l3)) = R) := by have e9 := HKs.out; rw [hs]; exact (gg_yes f2 lev d n hT).symm.trans e9
      clear hs0 hsa hT hs HS2 HKs X2
      go_upto_region 26 with fail
      go_cut [96] from 89 to 96 (fun t V => t = .bool false ∧ wr = V)
      case first =>
       by_cases hlt : j < KN
       ·have hjI : (j : Int) < (KN : Int) := by omega
        go_wp2_with fail
        go_meet
        case rel => exact ⟨rfl, rfl⟩
       ·have hjI : ¬ (j : Int) < (KN : Int) := by omega
        go_wp2_with fail
        go_meet
        case rel => exact ⟨rfl, rfl⟩
      case rest =>
       obtain ⟨rfl, rfl⟩ := hcut
       have KK0 := hZz K2
       clear K2
       go_upto_region 37 with fail
       obtain ⟨C, hC⟩ : ∃ C, C = wr.heap.size := ⟨_, rfl⟩
       have KX0 : Hid (XM g b cap T w B d (p :: l3) n (vi ki kn) (vS un) (vL sqn snn scn) (vi ki an) C s q.2.2 (wr.alloc (.cells #[vi ki 8, vS s, vL none 0 0, vi ki q.2.2] 30))) := by rw [hC]; exact XM.start KK0.out hg
       rw [← hC]
       refine gen_to (fun V => XM g b cap T w B d (p :: l3) n (vi ki kn) (vS un) (vL sqn snn scn) (vi ki an) C s q.2.2 V) KX0.out ?_
       clear KX0 KK0 hC
       intro W5 hW5
       have KK := hZz hW5
       clear hW5
       have HCC : Hid (∀ V : World, RS g b cap T V (p :: l3) d → Calls Tryd.prog 18 #[.pointer (some ⟨g, 0, none⟩), vi ki ((lev : Int) + 1)] V fun e w' => Kp g V w' ∧ ROut g b V.heap.size cap T (fun c => V.heap.size ≤ c) w' d e (par f2 (.lv (lev + 1)) d (mT p :: mL l3))) := fun V hV => HA.out V (p :: l3) d f2 hV HE2.out hd (by simp only [zl] at hN2 ⊢; omega) (by have := HF.out; simp only [need, mL_cons, zl, mL_len] at this ⊢; omega)
       cases hr : par f2 (.lv (lev + 1)) d (mT p :: mL l3) with
       | no ea er =>
        rw [hr] at HCC
        have HP1 : Hid (R = .no ea er) := by have := HK2.out; rw [hr] at this; exact this.symm
        clear hr HK2
        go_cut [] from 121 to 130 (fun V => er ≠ 0 ∧ ∃ sq' sn' sc', XF g b w B (vi ki kn) (vS un) (vL sqn snn scn) (vi ki an) C s q.2.2 (vL sq' sn' sc') ea er V)
        case first =>
         refine wp_region_held_drew (S := (fun V => Bx V B [vi ki kn, vS un, vL sqn snn scn, vi ki an])) (by kernel_rfl) KK.out.1.2.2.1 (fun hHeld => ?_)
         refine gen_anyR (fun V => XM g b cap T w B d (p :: l3) n (vi ki kn) (vS un) (vL sqn snn scn) (vi ki an) C s q.2.2 V) (by first | exact KK.out.drew | exact KK.out) ?_
         clear hHeld KK
         intro W6 hW6
         have KK := hZz hW6
         clear hW6
         have hHeld : (fun V => Bx V B [vi ki kn, vS un, vL sqn snn scn, vi ki an]) W6 := KK.out.1.2.2.1
         refine tks 0 ?_
         simp only [za, zb, zc, zd]
         refine tk (v := ?_) 2 ?_ ?_
         case refine_2 => (intro w9 hSw; have b0 := hSw.c 0 rfl; have b1 := hSw.c 1 rfl; have b2 := hSw.c 2 rfl; have b3 := hSw.c 3 rfl; have b9 := hSw.1; clear hSw; go_simp; try with_reducible rfl)
         simp only [za, zb, zc, zd]
         refine tks 3 ?_
         simp only [za, zb, zc, zd]
         refine tks 4 ?_
         simp only [za, zb, zc, zd]
         refine tks 5 ?_
         simp only [za, zb, zc, zd]
         refine rd2 1 6 (fun K hK => ?_) (fun K hK => ?_)
         ·
          have q0 := KK.out.2.1.c 2 rfl
          have q9 := KK.out.2.1.1
          go_simp
          refine hK.out _ _ hHeld (fun hHeld => ?_)
          clear hK K q0 q9
          refine rd 6 (fun K hK => ?_)
          go_simp
          refine (HCC.out _ KK.out.1.2.2.2.1).mono ?_
          have hq9 := KK.out.2.1.1
          rintro e v2 ⟨hk2, her, hf, k9, u9, sq9, sn9, sc9, a9, rfl⟩
          have HER := hZz her
          replace KK : Hid (XF g b w B (vi ki kn) (vS un) (vL sqn snn scn) (vi ki an) C s q.2.2 (vL none 0 0) ea er v2) := KK.out.fail hg hk2 hf
          refine hK.out _ _ KK.out.2.2.1 (fun hHeld => ?_)
          clear hK K hk2 hf her hq9
          refine rd 7 (fun K hK => ?_)
          go_simp
          obtain ⟨BR, hBR⟩ : ∃ BR, BR = v2.heap.size := ⟨_, rfl⟩
          have BN := bsm1 v2 [vi ki kn, vS un, vL sqn snn scn, vi ki an, vi ki k9, vS u9, vL sq9 sn9 sc9, vi ki a9] 30
          refine hK.out _ _ (KK.out.2.2.1.below BN.out.1) (fun hHeld => ?_)
          refine gen_anyR (fun V' => (XF g b w B (vi ki kn) (vS un) (vL sqn snn scn) (vi ki an) C s q.2.2 (vL none 0 0) ea er V') ∧ Bx V' BR [vi ki kn, vS un, vL sqn snn scn, vi ki an, vi ki k9, vS u9, vL sq9 sn9 sc9, vi ki a9]) ⟨KK.out.below BN.out.1, by rw [hBR]; exact BN.out.first⟩ ?_
          rw [← hBR]
          clear hHeld hK K BN hBR KK
          rintro v3 ⟨kk1, kk2⟩
          have KK := hZz kk1
          have HRW := hZz kk2
          clear kk1 kk2
          have hHeld : (fun V => Bx V B [vi ki kn, vS un, vL sqn snn scn, vi ki an]) v3 := KK.out.2.2.1
          refine rd 8 (fun K hK => ?_)
          refine (if_pos (by kernel_rfl)).mpr (wp_row2 _ _ rfl rfl rfl HRW.out ?_)
          intro v' w4 hown' hgrow
          have hgb : Below _ _ w4 := grown_below hgrow
          have hCV : C < v3.heap.size := KK.out.2.2.2.1.1
          obtain ⟨sq', sn', sc', hv'⟩ := own_form hown'
          subst hv'
          have K4 : Hid (XF g b w B (vi ki kn) (vS un) (vL sqn snn scn) (vi ki an) C s q.2.2 (vL none 0 0) ea er w4) := KK.out.below hgb
          have KD : Hid (XF g b w B (vi ki kn) (vS un) (vL sqn snn scn) (vi ki an) C s q.2.2 (vL sq' sn' sc') ea er (w4.setCell ⟨C, 2, none⟩ (vL sq' sn' sc'))) := K4.out.store hg hbl
          refine hK.out _ _ K4.out.2.2.1 (fun hHeld => ?_)
          clear hK K hown' hgrow hgb hCV KK HRW
          refine tks 9 ?_
          simp only [za, zb, zc, zd]
          refine rd 10 (fun K hK => ?_)
          have z2 := K4.out.2.2.2.1.f 2 rfl
          have c2 := K4.out.2.2.2.1.c 2 rfl
          have hB4 := K4.out.2.2.2.1.1
          go_simp
          refine hK.out _ _ KD.out.2.2.1 (fun hHeld => ?_)
          refine gen_anyR (fun V => XF g b w B (vi ki kn) (vS un) (vL sqn snn scn) (vi ki an) C s q.2.2 (vL sq' sn' sc') ea er V) KD.out ?_
          clear hK K z2 c2 hB4 K4 KD hHeld
          intro v5 hv7
          have KK := hZz hv7
          clear hv7
          have hHeld : (fun V => Bx V B [vi ki kn, vS un, vL sqn snn scn, vi ki an]) v5 := KK.out.2.2.1
          refine dn ?_
          go_wp2_with fail
          go_meet
          case rel => exact ⟨HER.out, sq', sn', sc', KK.out⟩
         ·
          go_simp
          refine (HCC.out _ KK.out.1.2.2.2.1).mono ?_
          have hq9 := KK.out.2.1.1
          rintro e v6 ⟨hk6, her, hf, k9, u9, sq9, sn9, sc9, a9, rfl⟩
          have HER := hZz her
          replace KK : Hid (XF g b w B (vi ki kn) (vS un) (vL sqn snn scn) (vi ki an) C s q.2.2 (vL none 0 0) ea er v6) := KK.out.fail hg hk6 hf
          refine hK.out _ _ KK.out.2.2.1 (fun hHeld => ?_)
          clear hK K hk6 hf her hq9
          refine rd2 1 7 (fun K hK => ?_) (fun K hK => ?_)
          ·
           have q0 := KK.out.2.2.2.1.c 2 rfl
           have q9 := KK.out.2.2.2.1.1
           go_simp
           refine hK.out _ _ hHeld (fun hHeld => ?_)
           clear hK K q0 q9
           refine rd 7 (fun K hK => ?_)
           go_simp
           obtain ⟨BR, hBR⟩ : ∃ BR, BR = v6.heap.size := ⟨_, rfl⟩
           have BN := bsm1 v6 [vi ki kn, vS un, vL sqn snn scn, vi ki an, vi ki k9, vS u9, vL sq9 sn9 sc9, vi ki a9] 30
           refine hK.out _ _ (KK.out.2.2.1.below BN.out.1) (fun hHeld => ?_)
           refine gen_anyR (fun V' => (XF g b w B (vi ki kn) (vS un) (vL sqn snn scn) (vi ki an) C s q.2.2 (vL none 0 0) ea er V') ∧ Bx V' BR [vi ki kn, vS un, vL sqn snn scn, vi ki an, vi ki k9, vS u9, vL sq9 sn9 sc9, vi ki a9]) ⟨KK.out.below BN.out.1, by rw [hBR]; exact BN.out.first⟩ ?_
           rw [← hBR]
           clear hHeld hK K BN hBR KK
           rintro v8 ⟨kk1, kk2⟩
           have KK := hZz kk1
           have HRW := hZz kk2
           clear kk1 kk2
           have hHeld : (fun V => Bx V B [vi ki kn, vS un, vL sqn snn scn, vi ki an]) v8 := KK.out.2.2.1
           refine rd 8 (fun K hK => ?_)
           refine (if_pos (by kernel_rfl)).mpr (wp_row2 _ _ rfl rfl rfl HRW.out ?_)
           intro v' w4 hown' hgrow
           have hgb : Below _ _ w4 := grown_below hgrow
           have hCV : C < v8.heap.size := KK.out.2.2.2.1.1
           obtain ⟨sq', sn', sc', hv'⟩ := own_form hown'
           subst hv'
           have K4 : Hid (XF g b w B (vi ki kn) (vS un) (vL sqn snn scn) (vi ki an) C s q.2.2 (vL none 0 0) ea er w4) := KK.out.below hgb
           have KD : Hid (XF g b w B (vi ki kn) (vS un) (vL sqn snn scn) (vi ki an) C s q.2.2 (vL sq' sn' sc') ea er (w4.setCell ⟨C, 2, none⟩ (vL sq' sn' sc'))) := K4.out.store hg hbl
           refine hK.out _ _ K4.out.2.2.1 (fun hHeld => ?_)
           clear hK K hown' hgrow hgb hCV KK HRW
           refine tks 9 ?_
           simp only [za, zb, zc, zd]
           refine rd 10 (fun K hK => ?_)
           have z2 := K4.out.2.2.2.1.f 2 rfl
           have c2 := K4.out.2.2.2.1.c 2 rfl
           have hB4 := K4.out.2.2.2.1.1
           go_simp
           refine hK.out _ _ KD.out.2.2.1 (fun hHeld => ?_)
           refine gen_anyR (fun V => XF g b w B (vi ki kn) (vS un) (vL sqn snn scn) (vi ki an) C s q.2.2 (vL sq' sn' sc') ea er V) KD.out ?_
           clear hK K z2 c2 hB4 K4 KD hHeld
           intro v10 hv7
           have KK := hZz hv7
           clear hv7
           have hHeld : (fun V => Bx V B [vi ki kn, vS un, vL sqn snn scn, vi ki an]) v10 := KK.out.2.2.1
           refine dn ?_
           go_wp2_with fail
           go_meet
           case rel => exact ⟨HER.out, sq', sn', sc', KK.out⟩
          ·
           go_simp
           obtain ⟨BR, hBR⟩ : ∃ BR, BR = v6.heap.size := ⟨_, rfl⟩
           have BN := bsm1 v6 [vi ki kn, vS un, vL sqn snn scn, vi ki an, vi ki k9, vS u9, vL sq9 sn9 sc9, vi ki a9] 30
           refine hK.out _ _ (KK.out.2.2.1.below BN.out.1) (fun hHeld => ?_)
           refine gen_anyR (fun V' => (XF g b w B (vi ki kn) (vS un) (vL sqn snn scn) (vi ki an) C s q.2.2 (vL none 0 0) ea er V') ∧ Bx V' BR [vi ki kn, vS un, vL sqn snn scn, vi ki an, vi ki k9, vS u9, vL sq9 sn9 sc9, vi ki a9]) ⟨KK.out.below BN.out.1, by rw [hBR]; exact BN.out.first⟩ ?_
           rw [← hBR]
           clear hHeld hK K BN hBR KK
           rintro v11 ⟨kk1, kk2⟩
           have KK := hZz kk1
           have HRW := hZz kk2
           clear kk1 kk2
           have hHeld : (fun V => Bx V B [vi ki kn, vS un, vL sqn snn scn, vi ki an]) v11 := KK.out.2.2.1
           refine rd 1 (fun K hK => ?_)
           have q0 := KK.out.2.2.2.1.c 2 rfl
           have q9 := KK.out.2.2.2.1.1
           go_simp
           refine hK.out _ _ hHeld (fun hHeld => ?_)
           clear hK K q0 q9
           refine rd 8 (fun K hK => ?_)
           refine (if_pos (by kernel_rfl)).mpr (wp_row2 _ _ rfl rfl rfl HRW.out ?_)
           intro v' w4 hown' hgrow
           have hgb : Below _ _ w4 := grown_below hgrow
           have hCV : C < v11.heap.size := KK.out.2.2.2.1.1
           obtain ⟨sq', sn', sc', hv'⟩ := own_form hown'
           subst hv'
           have K4 : Hid (XF g b w B (vi ki kn) (vS un) (vL sqn snn scn) (vi ki an) C s q.2.2 (vL none 0 0) ea er w4) := KK.out.below hgb
           have KD : Hid (XF g b w B (vi ki kn) (vS un) (vL sqn snn scn) (vi ki an) C s q.2.2 (vL sq' sn' sc') ea er (w4.setCell ⟨C, 2, none⟩ (vL sq' sn' sc'))) := K4.out.store hg hbl
           refine hK.out _ _ K4.out.2.2.1 (fun hHeld => ?_)
           clear hK K hown' hgrow hgb hCV KK HRW
           refine tks 9 ?_
           simp only [za, zb, zc, zd]
           refine rd 10 (fun K hK => ?_)
           have z2 := K4.out.2.2.2.1.f 2 rfl
           have c2 := K4.out.2.2.2.1.c 2 rfl
           have hB4 := K4.out.2.2.2.1.1
           go_simp
           refine hK.out _ _ KD.out.2.2.1 (fun hHeld => ?_)
           refine gen_anyR (fun V => XF g b w B (vi ki kn) (vS un) (vL sqn snn scn) (vi ki an) C s q.2.2 (vL sq' sn' sc') ea er V) KD.out ?_
           clear hK K z2 c2 hB4 K4 KD hHeld
           intro v14 hv7
           have KK := hZz hv7
           clear hv7
           have hHeld : (fun V => Bx V B [vi ki kn, vS un, vL sqn snn scn, vi ki an]) v14 := KK.out.2.2.1
           refine dn ?_
           go_wp2_with fail
           go_meet
           case rel => exact ⟨HER.out, sq', sn', sc', KK.out⟩
        case rest =>
         obtain ⟨her, sq', sn', sc', kk⟩ := hcut
         have KK := hZz kk
         have HER := hZz her
         clear her kk HCC
         obtain ⟨x0, x1, x2, x3⟩ := KK.out.2.2.2.1.d4
         have xh := KK.out.2.2.2.1.1
         obtain ⟨r0, r1, r2, r3, rf0, rf1, rf2, rf3⟩ := KK.out.2.2.1.cf4
         have rh := (KK.out.2.2.1).1
         go_upto_region 39 with fail
         refine gen_to (fun V => Kp g w V ∧ Bx V w.heap.size Z4 ∧ Bx V B [vi ki 8, vS s, vL sq' sn' sc', vi ki q.2.2] ∧ RF g b (C + 1) V ea er) (KK.out.put hg hbl (vi ki 8) (vS s) (vL sq' sn' sc') (vi ki q.2.2)) ?_
         have hCw : w.heap.size < C + 1 := by have := KK.out.2.2.2.2.2; omega
         clear KK r0 r1 r2 r3 rf0 rf1 rf2 rf3 rh x0 x1 x2 x3 xh
         rintro V9 kk
         have KP := hZz kk
         clear kk
         by_cases h3 : lev = 3
         ·have hl3 : ((lev : Int) == 3) = true := by rw [beq_iff_eq]; omega
          obtain ⟨n0, n1, n2, n3⟩ := KP.out.2.2.1.d4
          have nh := KP.out.2.2.1.1
          obtain ⟨y0', y1', y2', y3', HFK, HFO, HFS, rr0, rr1, rr2, rr3, rf0, rf1, rf2, rf3, hrw'⟩ := fin9 (vi ki 8) (vS s) (vL sq' sn' sc') (vi ki q.2.2) KP.out.1 (Nat.le_refl _) (KP.out.2.1)
          go_wp2
          refine bodyPost_ret (v := .agg #[vi ki 8, vS s, vL sq' sn' sc', vi ki q.2.2]) (by simp [results, Tryd.results18, go_sem, y0', y1', y2', y3']) rfl ⟨HFK.out, by rw [HP1.out]; exact ⟨HER.out, (KP.out.2.2.2.off HFO.out HFS.out (by omega) (by omega) (by omega)).mono (by omega), _, _, _, _, _, _, rfl⟩⟩
         ·have hl3 : ((lev : Int) == 3) = false := by rw [beq_eq_false_iff_ne]; omega
          go_wp2_with fail
          go_roundw
          case rel => exact Or.inr ⟨ea, er, C + 1, 8, s, sq', sn', sc', q.2.2, KP, HP1, HER.out, hCw⟩
          case measure => rw [KP.out.2.2.2.msr HER.out, HPL.out]; omega
       | ok m l1 =>
        rw [hr] at HCC
        have HP0 : Hid ((if lev = 3 then PR.ok (.mk 8 s [n, m] q.2.2) l1 else GG lev d f2 (.mk 8 s [n, m] q.2.2) l1) = R) := by have := HK2.out; rw [hr] at this; exact this
        have hls := par_less (g := .lv (lev + 1)) (by simp [okTg]; omega) (show EndL (mT p :: mL l3) from HE2.out) (by have := HF.out; simp only [need, zl, mL_len] at this ⊢; omega) hr
        have hls2 := hls.2
        simp only [most, zl, mL_len] at hls2
        clear hr HK2 hls
        go_cut [] from 121 to 130 (fun V => ∃ L1 R1 cp1, l1 = mL L1 ∧ XD g b cap T w B d L1 n m (vi ki kn) (vS un) (vL sqn snn scn) (vi ki an) C s q.2.2 (vL (some ⟨R1, 0, none⟩) 2 cp1) V)
        case first =>
         refine wp_region_held_drew (S := (fun V => Bx V B [vi ki kn, vS un, vL sqn snn scn, vi ki an])) (by kernel_rfl) KK.out.1.2.2.1 (fun hHeld => ?_)
         refine gen_anyR (fun V => XM g b cap T w B d (p :: l3) n (vi ki kn) (vS un) (vL sqn snn scn) (vi ki an) C s q.2.2 V) (by first | exact KK.out.drew | exact KK.out) ?_
         clear hHeld KK
         intro W6 hW6
         have KK := hZz hW6
         clear hW6
         have hHeld : (fun V => Bx V B [vi ki kn, vS un, vL sqn snn scn, vi ki an]) W6 := KK.out.1.2.2.1
         refine tks 0 ?_
         simp only [za, zb, zc, zd]
         refine tk (v := ?_) 2 ?_ ?_
         case refine_2 => (intro w9 hSw; have b0 := hSw.c 0 rfl; have b1 := hSw.c 1 rfl; have b2 := hSw.c 2 rfl; have b3 := hSw.c 3 rfl; have b9 := hSw.1; clear hSw; go_simp; try with_reducible rfl)
         simp only [za, zb, zc, zd]
         refine tks 3 ?_
         simp only [za, zb, zc, zd]
         refine tks 4 ?_
         simp only [za, zb, zc, zd]
         refine tks 5 ?_
         simp only [za, zb, zc, zd]
         refine rd2 1 6 (fun K hK => ?_) (fun K hK => ?_)
         ·
          have q0 := KK.out.2.1.c 2 rfl
          have q9 := KK.out.2.1.1
          go_simp
          refine hK.out _ _ hHeld (fun hHeld => ?_)
          clear hK K q0 q9
          refine rd 6 (fun K hK => ?_)
          go_simp
          refine (HCC.out _ KK.out.1.2.2.2.1).mono ?_
          have hq9 := KK.out.2.1.1
          rintro e v2 ⟨hk2, L1, hl2, hrs, hend, k9, u9, sq9, sn9, sc9, a9, rfl, hnd⟩
          subst hl2
          replace KK : Hid (XM g b cap T w B d L1 n (vi ki kn) (vS un) (vL sqn snn scn) (vi ki an) C s q.2.2 v2 ∧ NdAt (fun c => C + 1 ≤ c) v2 m [vi ki k9, vS u9, vL sq9 sn9 sc9, vi ki a9]) := ⟨KK.out.kp hg hk2 hrs hend, NdAt.keep (Nat.le_refl _) (fun c hc _ => ⟨by omega, rfl⟩) _ _ hnd⟩
          refine hK.out _ _ KK.out.1.1.2.2.1 (fun hHeld => ?_)
          clear hK K hk2 hrs hend hnd hq9
          refine rd 7 (fun K hK => ?_)
          go_simp
          obtain ⟨BR, hBR⟩ : ∃ BR, BR = v2.heap.size := ⟨_, rfl⟩
          have BN := bsm1 v2 [vi ki kn, vS un, vL sqn snn scn, vi ki an, vi ki k9, vS u9, vL sq9 sn9 sc9, vi ki a9] 30
          refine hK.out _ _ (KK.out.1.1.2.2.1.below BN.out.1) (fun hHeld => ?_)
          refine gen_anyR (fun V' => (XM g b cap T w B d L1 n (vi ki kn) (vS un) (vL sqn snn scn) (vi ki an) C s q.2.2 V' ∧ NdAt (fun c => C + 1 ≤ c) V' m [vi ki k9, vS u9, vL sq9 sn9 sc9, vi ki a9]) ∧ Bx V' BR [vi ki kn, vS un, vL sqn snn scn, vi ki an, vi ki k9, vS u9, vL sq9 sn9 sc9, vi ki a9]) ⟨⟨KK.out.1.below hg BN.out.1, KK.out.2.below BN.out.1⟩, by rw [hBR]; exact BN.out.first⟩ ?_
          rw [← hBR]
          clear hHeld hK K BN hBR KK
          rintro v3 ⟨kk1, kk2⟩
          have KK := hZz kk1
          have HRW := hZz kk2
          clear kk1 kk2
          have hHeld : (fun V => Bx V B [vi ki kn, vS un, vL sqn snn scn, vi ki an]) v3 := KK.out.1.1.2.2.1
          refine rd 8 (fun K hK => ?_)
          refine (if_pos (by kernel_rfl)).mpr (wp_row2 _ _ rfl rfl rfl HRW.out ?_)
          intro v' w4 hown' hgrow
          have hgb : Below _ _ w4 := grown_below hgrow
          have hCV : C < v3.heap.size := KK.out.1.2.1.1
          obtain ⟨R1, cp1, rfl, kd⟩ := (KK.out.1.below hg hgb).done hg hbl (KK.out.2.below hgb) hown' hCV
          have K4 : Hid (XM g b cap T w B d L1 n (vi ki kn) (vS un) (vL sqn snn scn) (vi ki an) C s q.2.2 w4) := KK.out.1.below hg hgb
          have KD := hZz kd
          clear kd
          refine hK.out _ _ K4.out.1.2.2.1 (fun hHeld => ?_)
          clear hK K hown' hgrow hgb hCV KK HRW
          refine tks 9 ?_
          simp only [za, zb, zc, zd]
          refine rd 10 (fun K hK => ?_)
          have z2 := K4.out.2.1.f 2 rfl
          have c2 := K4.out.2.1.c 2 rfl
          have hB4 := K4.out.2.1.1
          go_simp
          refine hK.out _ _ KD.out.1.2.2.1 (fun hHeld => ?_)
          refine gen_anyR (fun V => XD g b cap T w B d L1 n m (vi ki kn) (vS un) (vL sqn snn scn) (vi ki an) C s q.2.2 (vL (some ⟨R1, 0, none⟩) 2 cp1) V) KD.out ?_
          clear hK K z2 c2 hB4 K4 KD hHeld
          intro v5 hv7
          have KK := hZz hv7
          clear hv7
          have hHeld : (fun V => Bx V B [vi ki kn, vS un, vL sqn snn scn, vi ki an]) v5 := KK.out.1.2.2.1
          refine dn ?_
          go_wp2_with fail
          go_meet
          case rel => exact ⟨L1, R1, cp1, rfl, KK.out⟩
         ·
          go_simp
          refine (HCC.out _ KK.out.1.2.2.2.1).mono ?_
          have hq9 := KK.out.2.1.1
          rintro e v6 ⟨hk6, L1, hl6, hrs, hend, k9, u9, sq9, sn9, sc9, a9, rfl, hnd⟩
          subst hl6
          replace KK : Hid (XM g b cap T w B d L1 n (vi ki kn) (vS un) (vL sqn snn scn) (vi ki an) C s q.2.2 v6 ∧ NdAt (fun c => C + 1 ≤ c) v6 m [vi ki k9, vS u9, vL sq9 sn9 sc9, vi ki a9]) := ⟨KK.out.kp hg hk6 hrs hend, NdAt.keep (Nat.le_refl _) (fun c hc _ => ⟨by omega, rfl⟩) _ _ hnd⟩
          refine hK.out _ _ KK.out.1.1.2.2.1 (fun hHeld => ?_)
          clear hK K hk6 hrs hend hnd hq9
          refine rd2 1 7 (fun K hK => ?_) (fun K hK => ?_)
          ·
           have q0 := KK.out.1.2.1.c 2 rfl
           have q9 := KK.out.1.2.1.1
           go_simp
           refine hK.out _ _ hHeld (fun hHeld => ?_)
           clear hK K q0 q9
           refine rd 7 (fun K hK => ?_)
           go_simp
           obtain ⟨BR, hBR⟩ : ∃ BR, BR = v6.heap.size := ⟨_, rfl⟩
           have BN := bsm1 v6 [vi ki kn, vS un, vL sqn snn scn, vi ki an, vi ki k9, vS u9, vL sq9 sn9 sc9, vi ki a9] 30
           refine hK.out _ _ (KK.out.1.1.2.2.1.below BN.out.1) (fun hHeld => ?_)
           refine gen_anyR (fun V' => (XM g b cap T w B d L1 n (vi ki kn) (vS un) (vL sqn snn scn) (vi ki an) C s q.2.2 V' ∧ NdAt (fun c => C + 1 ≤ c) V' m [vi ki k9, vS u9, vL sq9 sn9 sc9, vi ki a9]) ∧ Bx V' BR [vi ki kn, vS un, vL sqn snn scn, vi ki an, vi ki k9, vS u9, vL sq9 sn9 sc9, vi ki a9]) ⟨⟨KK.out.1.below hg BN.out.1, KK.out.2.below BN.out.1⟩, by rw [hBR]; exact BN.out.first⟩ ?_
           rw [← hBR]
           clear hHeld hK K BN hBR KK
           rintro v8 ⟨kk1, kk2⟩
           have KK := hZz kk1
           have HRW := hZz kk2
           clear kk1 kk2
           have hHeld : (fun V => Bx V B [vi ki kn, vS un, vL sqn snn scn, vi ki an]) v8 := KK.out.1.1.2.2.1
           refine rd 8 (fun K hK => ?_)
           refine (if_pos (by kernel_rfl)).mpr (wp_row2 _ _ rfl rfl rfl HRW.out ?_)
           intro v' w4 hown' hgrow
           have hgb : Below _ _ w4 := grown_below hgrow
           have hCV : C < v8.heap.size := KK.out.1.2.1.1
           obtain ⟨R1, cp1, rfl, kd⟩ := (KK.out.1.below hg hgb).done hg hbl (KK.out.2.below hgb) hown' hCV
           have K4 : Hid (XM g b cap T w B d L1 n (vi ki kn) (vS un) (vL sqn snn scn) (vi ki an) C s q.2.2 w4) := KK.out.1.below hg hgb
           have KD := hZz kd
           clear kd
           refine hK.out _ _ K4.out.1.2.2.1 (fun hHeld => ?_)
           clear hK K hown' hgrow hgb hCV KK HRW
           refine tks 9 ?_
           simp only [za, zb, zc, zd]
           refine rd 10 (fun K hK => ?_)
           have z2 := K4.out.2.1.f 2 rfl
           have c2 := K4.out.2.1.c 2 rfl
           have hB4 := K4.out.2.1.1
           go_simp
           refine hK.out _ _ KD.out.1.2.2.1 (fun hHeld => ?_)
           refine gen_anyR (fun V => XD g b cap T w B d L1 n m (vi ki kn) (vS un) (vL sqn snn scn) (vi ki an) C s q.2.2 (vL (some ⟨R1, 0, none⟩) 2 cp1) V) KD.out ?_
           clear hK K z2 c2 hB4 K4 KD hHeld
           intro v10 hv7
           have KK := hZz hv7
           clear hv7
           have hHeld : (fun V => Bx V B [vi ki kn, vS un, vL sqn snn scn, vi ki an]) v10 := KK.out.1.2.2.1
           refine dn ?_
           go_wp2_with fail
           go_meet
           case rel => exact ⟨L1, R1, cp1, rfl, KK.out⟩
          ·
           go_simp
           obtain ⟨BR, hBR⟩ : ∃ BR, BR = v6.heap.size := ⟨_, rfl⟩
           have BN := bsm1 v6 [vi ki kn, vS un, vL sqn snn scn, vi ki an, vi ki k9, vS u9, vL sq9 sn9 sc9, vi ki a9] 30
           refine hK.out _ _ (KK.out.1.1.2.2.1.below BN.out.1) (fun hHeld => ?_)
           refine gen_anyR (fun V' => (XM g b cap T w B d L1 n (vi ki kn) (vS un) (vL sqn snn scn) (vi ki an) C s q.2.2 V' ∧ NdAt (fun c => C + 1 ≤ c) V' m [vi ki k9, vS u9, vL sq9 sn9 sc9, vi ki a9]) ∧ Bx V' BR [vi ki kn, vS un, vL sqn snn scn, vi ki an, vi ki k9, vS u9, vL sq9 sn9 sc9, vi ki a9]) ⟨⟨KK.out.1.below hg BN.out.1, KK.out.2.below BN.out.1⟩, by rw [hBR]; exact BN.out.first⟩ ?_
           rw [← hBR]
           clear hHeld hK K BN hBR KK
           rintro v11 ⟨kk1, kk2⟩
           have KK := hZz kk1
           have HRW := hZz kk2
           clear kk1 kk2
           have hHeld : (fun V => Bx V B [vi ki kn, vS un, vL sqn snn scn, vi ki an]) v11 := KK.out.1.1.2.2.1
           refine rd 1 (fun K hK => ?_)
           have q0 := KK.out.1.2.1.c 2 rfl
           have q9 := KK.out.1.2.1.1
           go_simp
           refine hK.out _ _ hHeld (fun hHeld => ?_)
           clear hK K q0 q9
           refine rd 8 (fun K hK => ?_)
           refine (if_pos (by kernel_rfl)).mpr (wp_row2 _ _ rfl rfl rfl HRW.out ?_)
           intro v' w4 hown' hgrow
           have hgb : Below _ _ w4 := grown_below hgrow
           have hCV : C < v11.heap.size := KK.out.1.2.1.1
           obtain ⟨R1, cp1, rfl, kd⟩ := (KK.out.1.below hg hgb).done hg hbl (KK.out.2.below hgb) hown' hCV
           have K4 : Hid (XM g b cap T w B d L1 n (vi ki kn) (vS un) (vL sqn snn scn) (vi ki an) C s q.2.2 w4) := KK.out.1.below hg hgb
           have KD := hZz kd
           clear kd
           refine hK.out _ _ K4.out.1.2.2.1 (fun hHeld => ?_)
           clear hK K hown' hgrow hgb hCV KK HRW
           refine tks 9 ?_
           simp only [za, zb, zc, zd]
           refine rd 10 (fun K hK => ?_)
           have z2 := K4.out.2.1.f 2 rfl
           have c2 := K4.out.2.1.c 2 rfl
           have hB4 := K4.out.2.1.1
           go_simp
           refine hK.out _ _ KD.out.1.2.2.1 (fun hHeld => ?_)
           refine gen_anyR (fun V => XD g b cap T w B d L1 n m (vi ki kn) (vS un) (vL sqn snn scn) (vi ki an) C s q.2.2 (vL (some ⟨R1, 0, none⟩) 2 cp1) V) KD.out ?_
           clear hK K z2 c2 hB4 K4 KD hHeld
           intro v14 hv7
           have KK := hZz hv7
           clear hv7
           have hHeld : (fun V => Bx V B [vi ki kn, vS un, vL sqn snn scn, vi ki an]) v14 := KK.out.1.2.2.1
           refine dn ?_
           go_wp2_with fail
           go_meet
           case rel => exact ⟨L1, R1, cp1, rfl, KK.out⟩
        case rest =>
         obtain ⟨L1, R1, cp1, rfl, kk⟩ := hcut
         have KK := hZz kk
         have HP1 : Hid _ := HP0
         clear kk HCC HP0
         rw [mL_len] at hls2
         obtain ⟨x0, x1, x2, x3⟩ := KK.out.2.1.d4
         have xh := KK.out.2.1.1
         obtain ⟨r0, r1, r2, r3, rf0, rf1, rf2, rf3⟩ := KK.out.1.2.2.1.cf4
         have rh := (KK.out.1.2.2.1).1
         go_upto_region 39 with fail
         refine gen_to (fun V => CR g b cap T w B d L1 (.mk 8 s [n, m] q.2.2) (vi ki 8) (vS s) (vL (some ⟨R1, 0, none⟩) 2 cp1) (vi ki q.2.2) V) (KK.out.put hg hbl) ?_
         clear KK r0 r1 r2 r3 rf0 rf1 rf2 rf3 rh x0 x1 x2 x3 xh
         rintro V9 kk
         have KP := hZz kk
         clear kk
         by_cases h3 : lev = 3
         ·have hl3 : ((lev : Int) == 3) = true := by rw [beq_iff_eq]; omega
          have HP2 : Hid (R = .ok (.mk 8 s [n, m] q.2.2) (mL L1)) := by have := HP1.out; rw [if_pos h3] at this; exact this.symm
          obtain ⟨n0, n1, n2, n3⟩ := KP.out.2.2.1.d4
          have nh := KP.out.2.2.1.1
          obtain ⟨y0', y1', y2', y3', HFK, HFO, HFS, rr0, rr1, rr2, rr3, rf0, rf1, rf2, rf3, hrw'⟩ := fin9 (vi ki 8) (vS s) (vL (some ⟨R1, 0, none⟩) 2 cp1) (vi ki q.2.2) KP.out.1 (Nat.le_refl _) (KP.out.2.1)
          go_wp2
          refine bodyPost_ret (v := .agg #[vi ki 8, vS s, vL (some ⟨R1, 0, none⟩) 2 cp1, vi ki q.2.2]) (by simp [results, Tryd.results18, go_sem, y0', y1', y2', y3']) rfl ⟨HFK.out, by rw [HP2.out]; exact ⟨L1, rfl, KP.out.2.2.2.1.off HFO.out HFS.out (by omega) (by omega), KP.out.2.2.2.2.2.2, _, _, _, _, _, _, rfl, KP.out.2.2.2.2.1.off HFO.out HFS.out (fun c hc => ⟨by omega, by omega⟩)⟩⟩
         ·have hl3 : ((lev : Int) == 3) = false := by rw [beq_eq_false_iff_ne]; omega
          have HP2 : Hid (GG lev d f2 (.mk 8 s [n, m] q.2.2) (mL L1) = R) := by have := HP1.out; rw [if_neg h3] at this; exact this
          go_wp2_with fail
          go_roundw
          case rel => exact Or.inl ⟨L1, f2, _, 8, s, some ⟨R1, 0, none⟩, 2, cp1, q.2.2, KP, by simp only [zl] at hN2; omega, (by have := HF.out; simp only [zl] at this; show _ ≤ _; omega), HP2⟩
          case measure => rw [KP.out.2.2.2.1.msr, HPL.out]; simp only [zl]; omega
   ·have HER := hZz her
    have K9 := hZz KB.out.1
    have H9 := hZz KB.out.2.1
    have F9 := hZz KB.out.2.2.2
    have e0 : (er == 0) = false := by simpa using her
    have e0p : (er = 0) = False := eq_false her
    clear her KB
    obtain ⟨c9, o9, n9, m9, D9, i9, z9, t9, hc9, hb9, -⟩ := F9.out
    have cg2 := hb9.c 2 rfl
    have hgl := hb9.1
    clear hb9 hc9
    obtain ⟨y0', y1', y2', y3', HFK, HFO, HFS, rr0, rr1, rr2, rr3, rf0, rf1, rf2, rf3, hrw'⟩ := fin9 (vi ki 0) (vS ⟨#[]⟩) (vL none 0 0) (vi ki 0) K9.out (Nat.le_refl _) (H9.out)
    go_wp2
    refine bodyPost_ret (v := .agg #[vi ki 0, vS ⟨#[]⟩, vL none 0 0, vi ki 0]) (by simp [results, Tryd.results18, go_sem, y0', y1', y2', y3']) rfl ⟨HFK.out, by rw [HR9.out]; exact ⟨HER.out, (F9.out.off HFO.out HFS.out (by omega) (by omega) (by omega)).mono (by omega), _, _, _, _, _, _, rfl⟩⟩
end Go.Proofs.YtaoocecipacnhaaDoor
