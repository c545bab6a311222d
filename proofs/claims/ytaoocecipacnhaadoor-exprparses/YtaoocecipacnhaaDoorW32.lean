import Derived.Test.YtaoocecipacnhaaDoorWz
import Derived.Test.YtaoocecipacnhaaDoorW24
import Derived.Test.YtaoocecipacnhaaDoorW31
import Derived.Test.YtaoocecipacnhaaDoorW23
import Derived.Test.YtaoocecipacnhaaDoorW30
import Derived.Test.YtaoocecipacnhaaDoorW29
open Go.Value renaming int → vi
open Go.IntKind renaming i64 → ki
open List renaming setIfInBounds_toArray → zb, set_cons_zero → zc, set_cons_succ → zd
open Go.Act renaming put → za
open Go.Ending renaming returned → zr
set_option maxRecDepth 100000
set_option maxHeartbeats 16000000
set_option linter.unusedVariables false
namespace Go.Proofs.YtaoocecipacnhaaDoor
open Go.RowKit
theorem infoRTok : (Tryd.prog.info? 59).map (fun i => (i.zero, i.size, i.bytes)) = some (some (.agg #[vi ki 0, .string ByteArray.empty, vi ki 0]), 3, 32) := by kernel_rfl
structure TQ (w : World) (v : Value) (A : List Tk) (W : World) : Prop where
 low : Below w.heap.size w W
 own : W.ownsRow w.heap.size 59 3 v A.length (flatT A)
theorem TQ.below {w : World} {v : Value} {A : List Tk} {W V : World} (h : TQ w v A W) (k : Below W.heap.size W V) : TQ w v A V :=
 ⟨h.low.trans (k.mono h.low.size), ownsRow_keep h.own (fun c h1 h2 => k.block c h2)⟩
theorem TQ.more {w : World} {v v' : Value} {A : List Tk} {W V : World} {p : Tk} (h : TQ w v A W) (hg : W.grownBy V v.ownBlock) (ho : V.ownsRow w.heap.size 59 3 v' (A.length + 1) (flatT A ++ [vi ki p.1, .string p.2.1, vi ki p.2.2])) : TQ w v' (A ++ [p]) V := by
 have hob : ∀ c, v.ownBlock = some c → w.heap.size ≤ c := fun c hc => (ob_lt h.own hc).1
 refine ⟨⟨hg.os.trans h.low.os, hg.tape.trans h.low.tape, hg.output.trans h.low.output, Nat.le_trans h.low.size hg.size, fun k hk => (hg.block k (by have := h.low.size; omega) (fun e => by have := hob _ e.symm; omega)).trans (h.low.block k hk)⟩, ?_⟩
 rw [flatT_append, List.length_append]
 exact ho
def RTokOf (w : World) (e : Ending) (w' : World) : Sum Int (List Tk) → Prop
 | .inl i => e = zr (.tuple #[.slice none 0 0, vi ki i, .bool false])
 | .inr T => ∃ v, e = zr (.tuple #[v, vi ki 0, .bool true]) ∧ w'.ownsRow w.heap.size 59 3 v T.length (flatT T)
theorem rtokens_any (s : ByteArray) (hs : s.size ≤ 2048) (L : List Tk) (hl : L.length ≤ 2048) (q : Option Addr) (cap : Nat) (w : World) (hq : L ≠ [] → ∃ b, q = some ⟨b, 0, none⟩ ∧ PV b 0 cap L w)
  (HQ : Hid (∀ p ∈ L, ∃ a : Nat, p.2.2 = (a : Int) ∧ a < s.size)) (HO : Hid (∀ i p, L[i]? = some p → qt p = false → (oneT p (L.drop (i + 1))).2.1.size ≤ 2048)) :
  Calls Tryd.prog 17 #[.string s, .slice q L.length cap] w fun e w' => Below w.heap.size w w' ∧ RTokOf w e w' (rtk s 0 L []) := by
 obtain ⟨i0, hi0, iz0, iz1, iz2⟩ := info_parts infoRTok
 obtain ⟨R, hR⟩ : ∃ R, R = rtk s 0 L [] := ⟨_, rfl⟩
 rw [← hR]
 have HR : Hid (R = rtk s ((0 : Nat) : Int) (L.drop 0) []) := hR
 clear hR
 have HV : Hid (L ≠ [] → ∃ b, q = some ⟨b, 0, none⟩ ∧ PV b 0 cap L w) := hq
 clear hq
 have hlI : (L.length : Int) ≤ 2048 := by omega
 have hsI : (s.size : Int) ≤ 2048 := by omega
 have K0 : Hid (TQ w (.slice none 0 0) [] w) := ⟨Below.refl _ _, World.ownsRow_nil _ _ _ _⟩
 go_enter Tryd.func17, Tryd.ntmps17
 go_wp2_with fail
 go_loopw [7, 8, 9] (fun v ev iv W => ∃ (i : Nat) (A : List Tk) (e : Int) (sq : Option Addr) (sn sc : Nat), v = .slice sq sn sc ∧ ev = vi ki e ∧ iv = vi ki (i : Int) ∧ i ≤ L.length ∧ A.length ≤ i ∧ Hid (TQ w (.slice sq sn sc) A W) ∧ Hid (R = rtk s e (L.drop i) A)) (fun _ _ iv _ => L.length - (intOf iv).toNat)
 case atStart => exact ⟨0, [], 0, none, 0, 0, rfl, rfl, rfl, Nat.zero_le _, Nat.le_refl _, K0, HR⟩
 case round =>
  obtain ⟨i, A, e, sq, sn, sc, rfl, rfl, rfl, hil, hAi, KT, KR⟩ := hrel
  clear K0 HR
  have hi0' : (0 : Int) ≤ (i : Int) := by omega
  have hiw : IntKind.i64.wrap ((i : Int) + 1) = (i : Int) + 1 := by rw [IntKind.wrap_i64]; omega
  by_cases hlt : i < L.length
  ·have hltI : (i : Int) < (L.length : Int) := by omega
   obtain ⟨p, hp⟩ : ∃ p, L[i]? = some p := ⟨L[i]'hlt, List.getElem?_eq_getElem hlt⟩
   have hdrop : L.drop i = p :: L.drop (i + 1) := by rw [List.drop_eq_getElem_cons hlt]; congr 1; exact (List.getElem?_eq_some_iff.1 hp).2
   obtain ⟨b, rfl, hPV⟩ := HV.out (fun z => by rw [z] at hlt; simp at hlt)
   have HP : Hid (PV b 0 cap L w) := hPV
   have HpL : Hid (L[i]? = some p) := hp
   obtain ⟨c0, c1, c2, hps⟩ := (hPV.below KT.out.low).cells hp
   obtain ⟨-, ha0, ha1, -⟩ := hPV.2.2.2.2 i p hp
   have hlc := hPV.2.2.1
   have hcc := hPV.2.2.2.1
   have hbW := Nat.lt_of_lt_of_le hPV.1 KT.out.low.size
   have KR2 := KR.out
   rw [hdrop, rtk] at KR2
   obtain ⟨a, haa, has⟩ := HQ.out p (List.mem_of_getElem? hp)
   clear hPV hdrop KR
   by_cases h1 : p.2.2 < e
   ·rw [if_pos h1] at KR2
    have HR2 : Hid (R = rtk s e (L.drop (i + 1)) A) := KR2
    clear KR2 hp haa has
    go_wp2_with fail
    go_roundw
    case rel => exact ⟨i + 1, A, e, sq, sn, sc, rfl, rfl, by go_num, by omega, by omega, KT, HR2⟩
    case measure => simp [intOf]; omega
   ·rw [if_neg h1] at KR2
    have HR1 : Hid _ := KR2
    clear KR2
    cases hq : qt p with
    | true =>
     have hq1 : (p.2.1.toList == [39]) = true := (lit_eq _ [39]).trans hq
     have HR3 : Hid (R = match qdS s p.2.2.toNat with | none => .inl p.2.2 | some x => rtk s (x.2 : Int) (L.drop (i + 1)) (A ++ [(3, x.1, p.2.2)])) := by have := HR1.out; rw [hq, if_pos rfl] at this; exact this
     clear HR1 hq
     have hat : p.2.2.toNat = a := by omega
     have hqd := quoted_any s a has hs wr
     rw [← haa] at hqd
     have e9 : qdS s p.2.2.toNat = (qdL (sb s (a + 1))).map (fun x => (⟨x.1.toArray⟩, a + 1 + x.2)) := by rw [hat]; rfl
     cases hx : qdL (sb s (a + 1)) with
     | none =>
      rw [hx] at hqd e9
      have HR4 : Hid (R = .inl p.2.2) := by have := HR3.out; rw [e9] at this; exact this
      have HQd : Hid _ := hqd
      clear hqd e9 HR3 hx hp haa hat has
      go_wp2_with fail
      refine Calls.mono HQd.out ?_
      rintro e' W2 ⟨hk, rfl⟩
      have KT2 : Hid (TQ w (.slice sq sn sc) A W2) := KT.out.below hk
      clear hk KT HQd c0 c1 c2
      go_upto_region 10 with fail
      refine wp_region_held_drew (S := (fun V => PV b 0 cap L V)) (by kernel_rfl) (by first | exact HP.out.below KT2.out.low | exact HP.out.below KT2.out.low.drew) (fun hHeld => ?_)
      refine tks 0 ⟨some 44, _, _, _, _, none⟩ rfl ?_
      simp only [za, zb, zc, zd]
      refine tks 1 ⟨some 45, _, _, _, _, none⟩ rfl ?_
      simp only [za, zb, zc, zd]
      refine tks 2 ⟨some 46, _, _, _, _, none⟩ rfl ?_
      simp only [za, zb, zc, zd]
      refine tks 3 ⟨some 47, _, _, _, _, none⟩ rfl ?_
      simp only [za, zb, zc, zd]
      refine tk (v := ?_) 4 ⟨some 48, _, _, _, _, none⟩ rfl ?_ ?_
      case refine_2 => (intro w9 hSw; obtain ⟨r0, r1, r2, r3⟩ := PV.cells hSw HpL.out; have r9 := hSw.1; clear hSw; go_simp; try with_reducible rfl)
      simp only [za, zb, zc, zd]
      refine tks 5 ⟨some 4, _, _, _, _, none⟩ rfl ?_
      simp only [za, zb, zc, zd]
      refine tks 6 ⟨some 5, _, _, _, _, none⟩ rfl ?_
      simp only [za, zb, zc, zd]
      refine tks 7 ⟨some 6, _, _, _, _, none⟩ rfl ?_
      simp only [za, zb, zc, zd]
      refine wpAnyH_done (by kernel_rfl) ?_ _
      go_wp2
      refine bodyPost_ret (v := .tuple #[.slice none 0 0, vi ki p.2.2, .bool false]) (by simp [results, Tryd.results17, go_sem]) rfl ⟨by first | exact KT2.out.low | exact KT2.out.low.drew, by rw [HR4.out]; rfl⟩
     | some x =>
      rw [hx] at hqd e9
      obtain ⟨X, hX⟩ : ∃ X : ByteArray, X = ⟨x.1.toArray⟩ := ⟨_, rfl⟩
      obtain ⟨k, hk⟩ : ∃ k : Nat, k = a + 1 + x.2 := ⟨_, rfl⟩
      have HR4 : Hid (R = rtk s (k : Int) (L.drop (i + 1)) (A ++ [(3, X, p.2.2)])) := by have := HR3.out; rw [e9] at this; rw [hk, hX]; exact this
      have HQd : Hid (Calls Tryd.prog 33 #[.string s, vi ki p.2.2] wr fun e w' => Below wr.heap.size wr w' ∧ e = zr (.tuple #[.string X, vi ki (k : Int)])) := by rw [hk, hX]; exact hqd
      clear hqd e9 HR3 hx hk hX hp haa hat has
      have hk0 : ¬ (k : Int) < 0 := by omega
      go_wp2_with fail
      refine Calls.mono HQd.out ?_
      rintro e' W2 ⟨hk, rfl⟩
      have KT2 : Hid (TQ w (.slice sq sn sc) A W2) := KT.out.below hk
      clear hk KT HQd c0 c1 c2
      obtain ⟨c0, c1, c2, -⟩ := (HP.out.below KT2.out.low).cells HpL.out
      have hbW2 := Nat.lt_of_lt_of_le HP.out.1 KT2.out.low.size
      go_wp2_with (at_builtin; refine Hid.out ?_)
      unfold Hid
      refine wpl_append_new rfl _ _ 51 rfl w.heap.size 59 i0 (.agg #[vi ki 0, .string ByteArray.empty, vi ki 0]) 3 32 Tryd.underlying51 hi0 iz0 iz1 iz2 rfl (by decide) _ A.length (flatT A) rfl ((KT2.out.below ((Below.refl _ W2).alloc (Nat.le_refl _) _)).own) ⟨W2.heap.size, 0, none⟩ 1 [vi ki 3, .string X, vi ki p.2.2] rfl rfl (part_new _ _ _ _ _) (part_one _ _ _) (by unfold maxLen; omega) (by omega) (by have := KT2.out.low.size; simp; omega) ?_
      intro v' w4 hown' hgrow hnew
      have HF : Hid _ := (KT2.out.below ((Below.refl _ W2).alloc (Nat.le_refl _) _)).more (p := (3, X, p.2.2)) hgrow hown'
      obtain ⟨sq', sn', sc', hv'⟩ := own_form hown'
      subst hv'
      clear hown' hgrow hnew KT2
      go_wp2_with fail
      go_roundw
      case rel => exact ⟨i + 1, A ++ [(3, X, p.2.2)], (k : Int), sq', sn', sc', rfl, rfl, by go_num, by omega, by simp; omega, HF, HR4⟩
      case measure => simp [intOf]; omega
    | false =>
     have hq1 : (p.2.1.toList == [39]) = false := (lit_eq _ [39]).trans hq
     have hsz := HO.out i p hp hq
     obtain ⟨t, ht⟩ : ∃ t, t = oneT p (L.drop (i + 1)) := ⟨_, rfl⟩
     have hta : t.2.2 = p.2.2 := by rw [ht]; unfold oneT; split; rfl; split <;> rfl
     rw [← ht] at hsz
     have HR3 : Hid (R = rtk s (t.2.2 + (t.2.1.size : Int)) (L.drop (i + 1)) (A ++ [t])) := by have := HR1.out; rw [hq, if_neg (by simp), ← ht, ← hta] at this; exact this
     have h1c := one_any b cap i L p hp wr (HP.out.below KT.out.low)
     rw [← ht] at h1c
     have HOn : Hid _ := h1c
     have ha0 : 0 ≤ t.2.2 := by omega
     have ha1 : t.2.2 ≤ 4096 := by omega
     have htw : IntKind.i64.wrap (t.2.2 + (t.2.1.size : Int)) = t.2.2 + (t.2.1.size : Int) := by rw [IntKind.wrap_i64]; omega
     clear h1c HR1 hq ht hta hp haa has
     go_wp2_with fail
     refine Calls.mono HOn.out ?_
     rintro e' W2 ⟨rfl, hk⟩
     have KT2 : Hid (TQ w (.slice sq sn sc) A W2) := KT.out.below hk
     clear hk KT HOn c0 c1 c2
     go_upto_region 14 with fail
     have X2 : Hid (TQ w (.slice sq sn sc) A (W2.alloc (.cells #[vi ki t.1, .string t.2.1, vi ki t.2.2] 59)) ∧ Bx (W2.alloc (.cells #[vi ki t.1, .string t.2.1, vi ki t.2.2] 59)) W2.heap.size [vi ki t.1, .string t.2.1, vi ki t.2.2]) := ⟨KT2.out.below ((Below.refl _ W2).alloc (Nat.le_refl _) _), Bx.new W2 [vi ki t.1, .string t.2.1, vi ki t.2.2] _⟩
     obtain ⟨B, hB⟩ : ∃ B, B = W2.heap.size := ⟨_, rfl⟩
     have HBo : Hid ((Value.slice sq sn sc).ownBlock ≠ some B) := fun e => by have := (ob_lt KT2.out.own e).2; omega
     rw [← hB] at X2
     rw [← hB]
     clear hB KT2
     refine gen_to (fun V => TQ w (.slice sq sn sc) A V ∧ Bx V B [vi ki t.1, .string t.2.1, vi ki t.2.2]) X2.out ?_
     clear X2
     rintro W3 ⟨k1, k2⟩
     have KT3 : Hid (TQ w (.slice sq sn sc) A W3) := k1
     have HBx : Hid (Bx W3 B [vi ki t.1, .string t.2.1, vi ki t.2.2]) := k2
     clear k1 k2
     have b0 := HBx.out.c 0 rfl
     have b1 := HBx.out.c 1 rfl
     have b2 := HBx.out.c 2 rfl
     have b9 := HBx.out.1
     go_wp2_with (at_builtin; refine Hid.out ?_)
     unfold Hid
     refine wpl_append_new rfl _ _ 51 rfl w.heap.size 59 i0 (.agg #[vi ki 0, .string ByteArray.empty, vi ki 0]) 3 32 Tryd.underlying51 hi0 iz0 iz1 iz2 rfl (by decide) _ A.length (flatT A) rfl ((KT3.out.below ((Below.refl _ W3).alloc (Nat.le_refl _) _)).own) ⟨W3.heap.size, 0, none⟩ 1 [vi ki t.1, .string t.2.1, vi ki t.2.2] rfl rfl (part_new _ _ _ _ _) (part_one _ _ _) (by unfold maxLen; omega) (by omega) (by have := KT3.out.low.size; simp; omega) ?_
     intro v' w4 hown' hgrow hnew
     have HF : Hid _ := (KT3.out.below ((Below.refl _ W3).alloc (Nat.le_refl _) _)).more (p := t) hgrow hown'
     have HB4 : Hid (Bx w4 B [vi ki t.1, .string t.2.1, vi ki t.2.2]) := grow_bx hgrow (HBx.out.alloc _) HBo.out
     obtain ⟨sq', sn', sc', hv'⟩ := own_form hown'
     subst hv'
     clear hown' hgrow hnew KT3
     clear b0 b1 b2 b9 HBx
     have b1 := HB4.out.c 1 rfl
     have b2 := HB4.out.c 2 rfl
     have b9 := HB4.out.1
     go_wp2_with fail
     go_roundw
     case rel => exact ⟨i + 1, A ++ [t], t.2.2 + (t.2.1.size : Int), sq', sn', sc', rfl, rfl, by go_num, by omega, by simp; omega, HF, HR3⟩
     case measure => simp [intOf]; omega
  ·obtain rfl : i = L.length := by omega
   have hltI : ¬ (L.length : Int) < (L.length : Int) := by omega
   have HR2 : Hid (R = .inr (A ++ [(5, ⟨#[]⟩, (s.size : Int))])) := by have := KR.out; rw [List.drop_length] at this; exact this
   clear KR
   go_wp2_with (at_builtin; refine Hid.out ?_)
   unfold Hid
   refine wpl_append_new rfl _ _ 51 rfl w.heap.size 59 i0 (.agg #[vi ki 0, .string ByteArray.empty, vi ki 0]) 3 32 Tryd.underlying51 hi0 iz0 iz1 iz2 rfl (by decide) _ A.length (flatT A) rfl ((KT.out.below ((Below.refl _ wr).alloc (Nat.le_refl _) _)).own) ⟨wr.heap.size, 0, none⟩ 1 [vi ki 5, .string ⟨#[]⟩, vi ki (s.size : Int)] rfl rfl (part_new _ _ _ _ _) (part_one _ _ _) (by unfold maxLen; omega) (by omega) (by have := KT.out.low.size; simp; omega) ?_
   intro v' w4 hown' hgrow hnew
   have HF : Hid _ := (KT.out.below ((Below.refl _ wr).alloc (Nat.le_refl _) _)).more (p := (5, ⟨#[]⟩, (s.size : Int))) hgrow hown'
   obtain ⟨sq', sn', sc', hv'⟩ := own_form hown'
   subst hv'
   clear hown' hgrow hnew KT
   go_wp2
   exact bodyPost_ret (v := .tuple #[.slice sq' sn' sc', vi ki 0, .bool true]) (by simp [results, Tryd.results17, go_sem]) rfl ⟨HF.out.low, by rw [HR2.out]; exact ⟨_, rfl, HF.out.own⟩⟩
theorem sg_find {q : Tk} (tag : Int) : ∀ (L : List ByteArray), (∀ s ∈ L, sgB q s = isT (mT q) [(tag, s)]) → L.find? (fun s => sgB q s) = if isT (mT q) (L.map (fun s => (tag, s))) = true then some (mT q).2.1 else none
 | [], h => rfl
 | s :: L, h => by
  have h1 := h s List.mem_cons_self
  have ih := sg_find tag L (fun x hx => h x (List.mem_cons_of_mem _ hx))
  rw [isT_one] at h1
  have e : isT (mT q) ((s :: L).map (fun s => (tag, s))) = (decide ((mT q).1 = tag ∧ (mT q).2.1 = s) || isT (mT q) (L.map (fun s => (tag, s)))) := by simp [isT]
  rw [e]
  by_cases hs : (mT q).1 = tag ∧ (mT q).2.1 = s
  ·rw [decide_eq_true hs] at h1
   rw [List.find?_cons_of_pos h1, if_pos (by simp [hs]), hs.2]
  ·rw [decide_eq_false hs] at h1
   rw [List.find?_cons_of_neg (by rw [h1]; simp), ih, decide_eq_false hs, Bool.false_or]
theorem sgs_0 : sgs 0 = (sgW 0).map (fun s => (4, s)) := rfl
theorem sgs_1 : sgs 1 = (sgW 1).map (fun s => (4, s)) := rfl
theorem sgs_3 : sgs 3 = (sgW 3).map (fun s => (5, s)) := rfl
theorem sgs_4 : sgs 4 = (sgW 4).map (fun s => (5, s)) := rfl
theorem sgs_5 : sgs 5 = (sgW 5).map (fun s => (5, s)) := rfl
theorem sgW_word {lev : Nat} (h : lev = 0 ∨ lev = 1 ∨ lev = 7) : ∀ s ∈ sgW lev, s ∈ wrdL := by
 intro s hs
 rcases h with rfl | rfl | rfl <;> (simp only [sgW, List.mem_cons, List.not_mem_nil, or_false] at hs; subst hs; unfold wrdL; simp)
theorem sgW_sign {lev : Nat} (h : lev = 3 ∨ lev = 4 ∨ lev = 5) : ∀ s ∈ sgW lev, s ∈ sgnL := by
 intro s hs
 rcases h with rfl | rfl | rfl <;> simp only [sgW, List.mem_cons, List.not_mem_nil, or_false] at hs
 ·rcases hs with rfl | rfl | rfl | rfl | rfl | rfl <;> (unfold sgnL; simp)
 ·rcases hs with rfl | rfl <;> (unfold sgnL; simp)
 ·rcases hs with rfl | rfl | rfl <;> (unfold sgnL; simp)
theorem line_find {q : Tk} (h : GoodT q) {lev : Nat} (hl : lev = 0 ∨ lev = 1 ∨ lev = 3 ∨ lev = 4 ∨ lev = 5) : (sgW lev).find? (fun s => sgB q s) = if isT (mT q) (sgs lev) = true then some (mT q).2.1 else none := by
 rcases hl with rfl | rfl | rfl | rfl | rfl
 ·rw [sgs_0]; exact sg_find 4 _ (fun s hs => sg_word h (sgW_word (.inl rfl) s hs))
 ·rw [sgs_1]; exact sg_find 4 _ (fun s hs => sg_word h (sgW_word (.inr (.inl rfl)) s hs))
 ·rw [sgs_3]; exact sg_find 5 _ (fun s hs => sg_sign h (sgW_sign (.inl rfl) s hs))
 ·rw [sgs_4]; exact sg_find 5 _ (fun s hs => sg_sign h (sgW_sign (.inr (.inl rfl)) s hs))
 ·rw [sgs_5]; exact sg_find 5 _ (fun s hs => sg_sign h (sgW_sign (.inr (.inr rfl)) s hs))
theorem row_two {V : World} {base : Nat} {X : Nat → Prop} {v : Value} {n m : Nd} {c0 c1 c2 c3 d0 d1 d2 d3 : Value} (h : V.ownsRow base 30 4 v 2 [c0, c1, c2, c3, d0, d1, d2, d3]) (hn : NdAt X V n [c0, c1, c2, c3]) (hm : NdAt X V m [d0, d1, d2, d3]) :
  ∃ R cap, v = .slice (some ⟨R, 0, none⟩) 2 cap ∧ 2 ≤ cap ∧ cap ≤ maxLen ∧ base ≤ R ∧ R < V.heap.size ∧ RwAt X V R 0 [n, m] := by
 rcases h.2 with ⟨_, z⟩ | ⟨R, cap, cur, e, h1, h2, h3, h4, _⟩
 ·cases z
 ·subst e
  refine ⟨R, cap, rfl, h3, h4, h1, (Array.getElem?_eq_some_iff.1 h2).1, ?_⟩
  have c := fun j hj => h.cellAt j hj
  rw [RwAt]
  exact ⟨⟨c0, c1, c2, c3, c 0 (by omega), c 1 (by omega), c 2 (by omega), c 3 (by omega), hn⟩, by rw [RwAt]; exact ⟨⟨d0, d1, d2, d3, c 4 (by omega), c 5 (by omega), c 6 (by omega), c 7 (by omega), hm⟩, by rw [RwAt]; trivial⟩⟩
def LREL (g b cap : Nat) (T : List Tk) (w : World) (B d N : Nat) (G : Nat → Nd → List Tk → PR) (R : PR) (V : World) : Prop :=
 (∃ (L : List Tk) (f1 : Nat) (n : Nd) (k : Int) (u : ByteArray) (sq : Option Addr) (sn sc : Nat) (a : Int), Hid (CR g b cap T w B d L n (vi ki k) (.string u) (.slice sq sn sc) (vi ki a) V) ∧ L.length ≤ N ∧ Hid (10 * L.length + 1 ≤ f1) ∧ Hid (G f1 n (mL L) = R)) ∨
 (∃ (ea er : Int) (Z : Nat) (k : Int) (u : ByteArray) (sq : Option Addr) (sn sc : Nat) (a : Int), Hid (Kp g w V ∧ Bx V w.heap.size Z4 ∧ Bx V B [vi ki k, .string u, .slice sq sn sc, vi ki a] ∧ RF g b Z V ea er) ∧ Hid (R = .no ea er) ∧ er ≠ 0 ∧ w.heap.size < Z)
theorem rsigns_at (lev : Nat) (hl : lev = 0 ∨ lev = 1 ∨ lev = 3 ∨ lev = 4 ∨ lev = 5 ∨ lev = 7) (w : World) :
  Calls Tryd.prog 38 #[vi ki (lev : Int)] w fun e w' => ∃ c, e = zr (.slice (some ⟨c, 0, none⟩) (sgW lev).length (sgW lev).length) ∧ w.heap.size ≤ c ∧ Below w.heap.size w w' ∧ Bx w' c (sTx (sgW lev)) :=
 (rsigns_any lev hl w).mono (by rintro e w' ⟨rfl, rfl⟩; exact ⟨_, rfl, Nat.le_refl _, (Below.refl _ _).alloc (Nat.le_refl _) _, Bx.new w _ _⟩)
theorem find_at {α : Type} {p : α → Bool} {L : List α} {j : Nat} {x : α} (h : L[j]? = some x) : (L.drop j).find? p = if p x = true then some x else (L.drop (j + 1)).find? p := by
 have hj := (List.getElem?_eq_some_iff.1 h).1
 have e := (List.getElem?_eq_some_iff.1 h).2
 rw [List.drop_eq_getElem_cons hj, e]
 by_cases q : p x = true
 ·rw [List.find?_cons_of_pos q, if_pos q]
 ·rw [List.find?_cons_of_neg q, if_neg q]
theorem find_yes {FD : Option ByteArray} {t : Bool} {x s : ByteArray} (h : FD = if t = true then some x else none) (h2 : FD = some s) : t = true ∧ s = x := by
 rw [h2] at h
 by_cases q : t = true
 ·rw [if_pos q] at h; exact ⟨q, by cases h; rfl⟩
 ·rw [if_neg q] at h; cases h
theorem find_no {FD : Option ByteArray} {t : Bool} {x : ByteArray} (h : FD = if t = true then some x else none) (h2 : FD = none) : t = false := by
 rw [h2] at h
 by_cases q : t = true
 ·rw [if_pos q] at h; cases h
 ·exact Bool.eq_false_iff.2 q
theorem sgs_txt {p : Tk} {lev : Nat} (hl : lev = 0 ∨ lev = 1 ∨ lev = 3 ∨ lev = 4 ∨ lev = 5) (h : isT p (sgs lev) = true) : p.2.1 ≠ ⟨#[]⟩ ∧ p.2.1 ≠ atB := by
 obtain ⟨x, hx, hd⟩ := List.any_eq_true.1 h
 have e := (of_decide_eq_true hd).2
 rw [e]
 rcases hl with rfl | rfl | rfl | rfl | rfl <;> simp only [sgs, List.mem_cons, List.not_mem_nil, or_false] at hx
 ·subst hx; decide +kernel
 ·subst hx; decide +kernel
 ·rcases hx with rfl | rfl | rfl | rfl | rfl | rfl <;> decide +kernel
 ·rcases hx with rfl | rfl <;> decide +kernel
 ·rcases hx with rfl | rfl | rfl <;> decide +kernel
def GG (lev d : Nat) : Nat → Nd → List Tk → PR
 | 0, _, _ => .no 0 0
 | f + 1, n, l => if lev = 3 then cmpK (par f) d n l else par (f + 1) (.lp lev n) d l
def lnK (f lev d : Nat) : PR → PR
 | .no a e => .no a e
 | .ok n l1 => GG lev d (if lev = 3 then f + 1 else f) n l1
theorem ln_eq (f lev d : Nat) (hl : lev = 0 ∨ lev = 1 ∨ lev = 3 ∨ lev = 4 ∨ lev = 5) (p : Tk) (l : List Tk) : par (f + 1) (.lv lev) d (p :: l) = lnK f lev d (par f (.lv (lev + 1)) d (p :: l)) := by
 rw [par_succ]; unfold pst; dsimp only
 by_cases h3 : lev = 3
 ·subst h3
  rw [if_neg (by omega), if_neg (by omega), if_pos rfl]
  cases par f (.lv 4) d (p :: l) <;> rfl
 ·rw [if_neg (by omega), if_neg (by omega), if_neg h3, if_neg (by omega), if_neg (by omega), if_neg (by omega)]
  cases par f (.lv (lev + 1)) d (p :: l) with
  | no a e => rfl
  | ok n l1 => rw [lnK]; rw [if_neg h3]; cases f with
   | zero => rfl
   | succ f => rw [GG, if_neg h3]
def xG (f lev d : Nat) (n : Nd) (s : ByteArray) (a : Int) : PR → PR
 | .no a e => .no a e
 | .ok m l1 => if lev = 3 then .ok (.mk 8 s [n, m] a) l1 else GG lev d f (.mk 8 s [n, m] a) l1
theorem gg_yes (f lev d : Nat) (n : Nd) {q : Tk} {l : List Tk} (h : isT q (sgs lev) = true) : GG lev d (f + 1) n (q :: l) = xG f lev d n q.2.1 q.2.2 (par f (.lv (lev + 1)) d l) := by
 rw [GG]
 by_cases h3 : lev = 3
 ·subst h3
  rw [if_pos rfl]; unfold cmpK; dsimp only; rw [if_pos h]
  cases par f (.lv 4) d l <;> rfl
 ·rw [if_neg h3, par_succ]; unfold pst; dsimp only
  rw [if_pos h]
  cases par f (.lv (lev + 1)) d l with
  | no a e => rfl
  | ok m l1 => rw [xG, if_neg h3]; cases f with
   | zero => rfl
   | succ f => rw [GG, if_neg h3]
theorem gg_no (f lev d : Nat) (n : Nd) {q : Tk} {l : List Tk} (h : isT q (sgs lev) = false) : GG lev d (f + 1) n (q :: l) = .ok n (q :: l) := by
 rw [GG]
 by_cases h3 : lev = 3
 ·subst h3
  rw [if_pos rfl]; unfold cmpK; dsimp only; rw [if_neg (by simp [h])]
 ·rw [if_neg h3, par_succ]; unfold pst; dsimp only
  rw [if_neg (by simp [h])]
def xZ (f d : Nat) (n : Nd) (a : Int) : PR → PR
 | .no a e => .no a e
 | .ok m l1 => par f (.zs (.mk 8 atzB [n, m] a)) d l1
def XM (g b cap : Nat) (T : List Tk) (w : World) (B d : Nat) (L : List Tk) (n : Nd) (c0 c1 c2 c3 : Value) (C : Nat) (s : ByteArray) (at_ : Int) (V : World) : Prop :=
 CR g b cap T w B d L n c0 c1 c2 c3 V ∧ Bx V C [vi ki 8, .string s, .slice none 0 0, vi ki at_] ∧ NdAt (fun c => w.heap.size + 1 ≤ c ∧ c ≠ B ∧ c < C) V n [c0, c1, c2, c3] ∧ B < C
theorem XM.start {g b cap : Nat} {T : List Tk} {w : World} {B d : Nat} {L : List Tk} {n : Nd} {c0 c1 c2 c3 : Value} {s : ByteArray} {at_ : Int} {t : TypeId} {V : World} (h : CR g b cap T w B d L n c0 c1 c2 c3 V) (hg : g < w.heap.size) : XM g b cap T w B d L n c0 c1 c2 c3 V.heap.size s at_ (V.alloc (.cells #[vi ki 8, .string s, .slice none 0 0, vi ki at_] t)) := by
 have hb : Below V.heap.size V (V.alloc (.cells #[vi ki 8, .string s, .slice none 0 0, vi ki at_] t)) := (Below.refl _ _).alloc (Nat.le_refl _) _
 exact ⟨h.kp hg (Kp.of hb) (h.2.2.2.1.below hb) h.2.2.2.2.2.2, Bx.new V [vi ki 8, .string s, .slice none 0 0, vi ki at_] t, NdAt.keep (by simp) (fun c hc hl => ⟨⟨hc.1, hc.2, hl⟩, hb.block c hl⟩) _ _ h.2.2.2.2.1, h.2.2.1.1⟩
theorem XM.drew {g b cap : Nat} {T : List Tk} {w : World} {B d : Nat} {L : List Tk} {n : Nd} {c0 c1 c2 c3 : Value} {C : Nat} {s : ByteArray} {at_ : Int} {V : World} (h : XM g b cap T w B d L n c0 c1 c2 c3 C s at_ V) : XM g b cap T w B d L n c0 c1 c2 c3 C s at_ V.drew :=
 ⟨h.1.drew, h.2.1, h.2.2.1.drewR, h.2.2.2⟩
theorem XM.kp {g b cap : Nat} {T : List Tk} {w : World} {B d : Nat} {L L' : List Tk} {n : Nd} {c0 c1 c2 c3 : Value} {C : Nat} {s : ByteArray} {at_ : Int} {V V' : World} (h : XM g b cap T w B d L n c0 c1 c2 c3 C s at_ V) (hg : g < w.heap.size) (hk : Kp g V V') (hp : RS g b cap T V' L' d) (he : EndL (mL L')) : XM g b cap T w B d L' n c0 c1 c2 c3 C s at_ V' :=
 ⟨h.1.kp hg hk hp he, hk.bx h.2.1 (by have := h.2.2.2; have := h.1.2.2.2.2.2.1; omega), h.2.2.1.kp hk (fun c hc => ⟨hc, by omega⟩), h.2.2.2⟩
theorem XM.below {g b cap : Nat} {T : List Tk} {w : World} {B d : Nat} {L : List Tk} {n : Nd} {c0 c1 c2 c3 : Value} {C : Nat} {s : ByteArray} {at_ : Int} {V V' : World} (h : XM g b cap T w B d L n c0 c1 c2 c3 C s at_ V) (hg : g < w.heap.size) (hb : Below V.heap.size V V') : XM g b cap T w B d L n c0 c1 c2 c3 C s at_ V' :=
 h.kp hg (Kp.of hb) (h.1.2.2.2.1.below hb) h.1.2.2.2.2.2.2
def XD (g b cap : Nat) (T : List Tk) (w : World) (B d : Nat) (L : List Tk) (n m : Nd) (c0 c1 c2 c3 : Value) (C : Nat) (s : ByteArray) (at_ : Int) (sv : Value) (V : World) : Prop :=
 CR g b cap T w B d L n c0 c1 c2 c3 V ∧ Bx V C [vi ki 8, .string s, sv, vi ki at_] ∧ NdAt (fun c => w.heap.size + 1 ≤ c ∧ c ≠ B ∧ c ≠ C) V (.mk 8 s [n, m] at_) [vi ki 8, .string s, sv, vi ki at_] ∧ B < C
theorem XM.done {g b cap : Nat} {T : List Tk} {w : World} {B d : Nat} {L : List Tk} {n m : Nd} {c0 c1 c2 c3 d0 d1 d2 d3 : Value} {C : Nat} {s : ByteArray} {at_ : Int} {v : Value} {base : Nat} {V : World} (h : XM g b cap T w B d L n c0 c1 c2 c3 C s at_ V) (hg : g < w.heap.size) (hbl : b < w.heap.size)
  (hm : NdAt (fun c => C + 1 ≤ c) V m [d0, d1, d2, d3]) (ho : V.ownsRow base 30 4 v 2 [c0, c1, c2, c3, d0, d1, d2, d3]) (hbase : C < base) :
  ∃ R cp, v = .slice (some ⟨R, 0, none⟩) 2 cp ∧ XD g b cap T w B d L n m c0 c1 c2 c3 C s at_ (.slice (some ⟨R, 0, none⟩) 2 cp) (V.setCell ⟨C, 2, none⟩ (.slice (some ⟨R, 0, none⟩) 2 cp)) := by
 have hC := h.2.2.2
 have hB := h.1.2.2.2.2.2.1
 have hn2 : NdAt (fun c => w.heap.size + 1 ≤ c ∧ c ≠ B ∧ c ≠ C) V n [c0, c1, c2, c3] := NdAt.keep (Nat.le_refl _) (fun c hc _ => ⟨⟨hc.1, hc.2.1, by have := hc.2.2; omega⟩, rfl⟩) _ _ h.2.2.1
 have hm2 : NdAt (fun c => w.heap.size + 1 ≤ c ∧ c ≠ B ∧ c ≠ C) V m [d0, d1, d2, d3] := NdAt.keep (Nat.le_refl _) (fun c hc _ => ⟨⟨by omega, by omega, by omega⟩, rfl⟩) _ _ hm
 obtain ⟨R, cp, rfl, h1, h2, h3, h4, h5⟩ := row_two ho hn2 hm2
 have hoff : ∀ c, c < V.heap.size → c ≠ C → (V.setCell ⟨C, 2, none⟩ (.slice (some ⟨R, 0, none⟩) 2 cp)).heap[c]? = V.heap[c]? := fun c _ hc => Below.heap_setCell _ _ _ _ hc
 have hnn : NdAt (fun c => w.heap.size + 1 ≤ c ∧ c ≠ B ∧ c ≠ C) V (.mk 8 s [n, m] at_) [vi ki 8, .string s, .slice (some ⟨R, 0, none⟩) 2 cp, vi ki at_] := NdAt.row (ks := [n, m]) (by simp) h1 h2 ⟨by omega, by omega, by omega⟩ h4 h5
 have hz := h.1.1.size
 refine ⟨R, cp, rfl, ⟨h.1.1.set (p := ⟨C, 2, none⟩) (.inr (by show _ ≤ C; omega)) _, h.1.2.1.setOther (by omega) [_] 2, h.1.2.2.1.setOther (by omega) [_] 2, h.1.2.2.2.1.off (r := C) hoff (by simp) (by omega) (by omega), h.2.2.1.off (r := C) hoff (by simp) (fun c hc => ⟨⟨hc.1, hc.2.1⟩, by have := hc.2.2; omega⟩), hB, h.1.2.2.2.2.2.2⟩, h.2.1.set1 2 _ (by simp), hnn.off (r := C) hoff (by simp) (fun c hc => ⟨hc, hc.2.2⟩), hC⟩
theorem XD.put {g b cap : Nat} {T : List Tk} {w : World} {B d : Nat} {L : List Tk} {n m : Nd} {c0 c1 c2 c3 : Value} {C : Nat} {s : ByteArray} {at_ : Int} {sv : Value} {V : World} (h : XD g b cap T w B d L n m c0 c1 c2 c3 C s at_ sv V) (hg : g < w.heap.size) (hbl : b < w.heap.size) :
  CR g b cap T w B d L (.mk 8 s [n, m] at_) (vi ki 8) (.string s) sv (vi ki at_) (V.setCells B 0 [vi ki 8, .string s, sv, vi ki at_]) :=
 h.1.put hg hbl (Kp.refl g V) h.1.2.2.2.1 h.1.2.2.2.2.2.2 (NdAt.keep (Nat.le_refl _) (fun c hc _ => ⟨.inl ⟨hc.1, hc.2.1⟩, rfl⟩) _ _ h.2.2.1)
def XF (g b : Nat) (w : World) (B : Nat) (c0 c1 c2 c3 : Value) (C : Nat) (s : ByteArray) (at_ : Int) (sv : Value) (ea er : Int) (V : World) : Prop :=
 Kp g w V ∧ Bx V w.heap.size Z4 ∧ Bx V B [c0, c1, c2, c3] ∧ Bx V C [vi ki 8, .string s, sv, vi ki at_] ∧ RF g b (C + 1) V ea er ∧ w.heap.size + 1 ≤ B ∧ B < C
theorem XM.fail {g b cap : Nat} {T : List Tk} {w : World} {B d : Nat} {L : List Tk} {n : Nd} {c0 c1 c2 c3 : Value} {C : Nat} {s : ByteArray} {at_ ea er : Int} {V V' : World} (h : XM g b cap T w B d L n c0 c1 c2 c3 C s at_ V) (hg : g < w.heap.size) (hk : Kp g V V') (hf : RF g b V.heap.size V' ea er) : XF g b w B c0 c1 c2 c3 C s at_ (.slice none 0 0) ea er V' := by
 have hC := h.2.2.2
 have hB := h.1.2.2.2.2.2.1
 exact ⟨h.1.1.trans hk, hk.bx h.1.2.1 (by omega), hk.bx h.1.2.2.1 (by omega), hk.bx h.2.1 (by omega), hf.mono h.2.1.1, hB, hC⟩
theorem XF.below {g b : Nat} {w : World} {B : Nat} {c0 c1 c2 c3 : Value} {C : Nat} {s : ByteArray} {at_ : Int} {sv : Value} {ea er : Int} {V V' : World} (h : XF g b w B c0 c1 c2 c3 C s at_ sv ea er V) (hb : Below V.heap.size V V') : XF g b w B c0 c1 c2 c3 C s at_ sv ea er V' :=
 ⟨h.1.trans (Kp.of hb), h.2.1.below hb, h.2.2.1.below hb, h.2.2.2.1.below hb, h.2.2.2.2.1.below hb, h.2.2.2.2.2⟩
theorem XF.store {g b : Nat} {w : World} {B : Nat} {c0 c1 c2 c3 : Value} {C : Nat} {s : ByteArray} {at_ : Int} {sv sv' : Value} {ea er : Int} {V : World} (h : XF g b w B c0 c1 c2 c3 C s at_ sv ea er V) (hg : g < w.heap.size) (hbl : b < w.heap.size) : XF g b w B c0 c1 c2 c3 C s at_ sv' ea er (V.setCell ⟨C, 2, none⟩ sv') := by
 obtain ⟨h1, h2, h3, h4, h5, h6, h7⟩ := h
 have hoff : ∀ c, c < V.heap.size → c ≠ C → (V.setCell ⟨C, 2, none⟩ sv').heap[c]? = V.heap[c]? := fun c _ hc => Below.heap_setCell _ _ _ _ hc
 exact ⟨h1.set (p := ⟨C, 2, none⟩) (.inr (by show _ ≤ C; omega)) _, h2.setOther (by omega) [_] 2, h3.setOther (by omega) [_] 2, h4.set1 2 _ (by simp), h5.off (r := C) hoff (by simp) (by omega) (by omega) (by omega), h6, h7⟩
theorem XF.put {g b : Nat} {w : World} {B : Nat} {c0 c1 c2 c3 : Value} {C : Nat} {s : ByteArray} {at_ : Int} {sv : Value} {ea er : Int} {V : World} (h : XF g b w B c0 c1 c2 c3 C s at_ sv ea er V) (hg : g < w.heap.size) (hbl : b < w.heap.size) (v0 v1 v2 v3 : Value) :
  Kp g w (V.setCells B 0 [v0, v1, v2, v3]) ∧ Bx (V.setCells B 0 [v0, v1, v2, v3]) w.heap.size Z4 ∧ Bx (V.setCells B 0 [v0, v1, v2, v3]) B [v0, v1, v2, v3] ∧ RF g b (C + 1) (V.setCells B 0 [v0, v1, v2, v3]) ea er := by
 obtain ⟨h1, h2, h3, h4, h5, h6, h7⟩ := h
 obtain ⟨q1, q2, q3, q4⟩ := fin4 [] v0 v1 v2 v3 h1 (by omega) h3
 exact ⟨q1, h2.setOther (by omega) _, q2, h5.off q3 q4 (by omega) (by omega) (by omega)⟩
end Go.Proofs.YtaoocecipacnhaaDoor
