import Derived.Test.YtaoocecipacnhaaDoorWz
import Derived.Test.YtaoocecipacnhaaDoorW28
import Derived.Test.YtaoocecipacnhaaDoorW19
open Go.Value renaming int → vi
open Go.IntKind renaming i64 → ki
open List renaming setIfInBounds_toArray → zb, set_cons_zero → zc, set_cons_succ → zd
open Go.Act renaming put → za
open Go.Ending renaming returned → zr
set_option maxRecDepth 100000
set_option maxHeartbeats 16000000
set_option linter.unusedVariables false
namespace Go.Proofs.YtaoocecipacnhaaDoor
open Go.RowKit
theorem row_one {V : World} {base : Nat} {X : Nat → Prop} {v : Value} {n : Nd} {c0 c1 c2 c3 : Value} (h : V.ownsRow base 30 4 v 1 [c0, c1, c2, c3]) (hn : NdAt X V n [c0, c1, c2, c3]) :
  ∃ R cap, v = .slice (some ⟨R, 0, none⟩) 1 cap ∧ 1 ≤ cap ∧ cap ≤ maxLen ∧ base ≤ R ∧ R < V.heap.size ∧ RwAt X V R 0 [n] := by
 rcases h.2 with ⟨_, z⟩ | ⟨R, cap, cur, e, h1, h2, h3, h4, _⟩
 ·cases z
 ·subst e
  refine ⟨R, cap, rfl, h3, h4, h1, (Array.getElem?_eq_some_iff.1 h2).1, ?_⟩
  have c := fun j hj => h.cellAt j hj
  rw [RwAt]
  exact ⟨⟨c0, c1, c2, c3, c 0 (by omega), c 1 (by omega), c 2 (by omega), c 3 (by omega), hn⟩, by rw [RwAt]; trivial⟩
theorem grown_below {w W : World} (h : w.grownBy W none) : Below w.heap.size w W := ⟨h.os, h.tape, h.output, h.size, fun c hc => h.block c hc (fun q => by cases q)⟩
theorem infoNode22 : (Tryd.prog.info? 30).map (fun i => (i.zero, i.size, i.bytes)) = some (some (.agg #[vi ki 0, .string ByteArray.empty, .slice none 0 0, vi ki 0]), 4, 56) := by kernel_rfl
theorem wp_row1 {o : Oper} {a : Act} {K : Act → World → Prop} {Q : Exit → Act → World → Prop} {w : World} (s x : Operand) (ho : o.op = .call { callee := .builtin .append, args := #[s, x], argTypes := #[28, 28] }) (hs : a.eval s = .slice none 0 0) {BR : Nat} {kx : Int} {tx : ByteArray} {qx : Option Addr} {nx cx : Nat} {ax : Int}
  (hx : a.eval x = .slice (some ⟨BR, 0, none⟩) 1 1) (hb : Bx w BR [vi ki kx, .string tx, .slice qx nx cx, vi ki ax]) (h : ∀ v' w', w'.ownsRow w.heap.size 30 4 v' 1 [vi ki kx, .string tx, .slice qx nx cx, vi ki ax] → w.grownBy w' none → K (a.put o.dst v') w') : o.wp Tryd.prog a w K Q := by
 obtain ⟨i0, hi0, iz0, iz1, iz2⟩ := info_parts infoNode22
 refine wp_append_own _ s x 28 ho w.heap.size 30 i0 (.agg #[vi ki 0, .string ByteArray.empty, .slice none 0 0, vi ki 0]) 4 56 Tryd.underlying28 hi0 iz0 iz1 iz2 rfl (by decide) (.slice none 0 0) 0 [] hs (World.ownsRow_nil _ _ _ _) ⟨BR, 0, none⟩ 1 1 [vi ki kx, .string tx, .slice qx nx cx, vi ki ax] hx rfl (fun j u hj => by rw [show (⟨BR, 0, none⟩ : Addr).add j = ⟨BR, j, none⟩ from by rw [Addr.add_lit]; simp]; exact (hb.2 j u hj).1) (by intro u hu; simp at hu; rcases hu with rfl | rfl | rfl | rfl <;> rfl) (by unfold maxLen; omega) (by omega) (Nat.le_refl _) ?_
 intro v' w' h1 h2 _
 exact h v' w' h1 h2
theorem wp_row2 {o : Oper} {a : Act} {K : Act → World → Prop} {Q : Exit → Act → World → Prop} {w : World} (s x : Operand) (ho : o.op = .call { callee := .builtin .append, args := #[s, x], argTypes := #[28, 28] }) (hs : a.eval s = .slice none 0 0) {BR : Nat} {kx : Int} {tx : ByteArray} {qx : Option Addr} {nx cx : Nat} {ax : Int} {ky : Int} {ty : ByteArray} {qy : Option Addr} {ny cy : Nat} {ay : Int}
  (hx : a.eval x = .slice (some ⟨BR, 0, none⟩) 2 2) (hb : Bx w BR [vi ki kx, .string tx, .slice qx nx cx, vi ki ax, vi ki ky, .string ty, .slice qy ny cy, vi ki ay]) (h : ∀ v' w', w'.ownsRow w.heap.size 30 4 v' 2 [vi ki kx, .string tx, .slice qx nx cx, vi ki ax, vi ki ky, .string ty, .slice qy ny cy, vi ki ay] → w.grownBy w' none → K (a.put o.dst v') w') : o.wp Tryd.prog a w K Q := by
 obtain ⟨i0, hi0, iz0, iz1, iz2⟩ := info_parts infoNode22
 refine wp_append_own _ s x 28 ho w.heap.size 30 i0 (.agg #[vi ki 0, .string ByteArray.empty, .slice none 0 0, vi ki 0]) 4 56 Tryd.underlying28 hi0 iz0 iz1 iz2 rfl (by decide) (.slice none 0 0) 0 [] hs (World.ownsRow_nil _ _ _ _) ⟨BR, 0, none⟩ 2 2 [vi ki kx, .string tx, .slice qx nx cx, vi ki ax, vi ki ky, .string ty, .slice qy ny cy, vi ki ay] hx rfl (fun j u hj => by rw [show (⟨BR, 0, none⟩ : Addr).add j = ⟨BR, j, none⟩ from by rw [Addr.add_lit]; simp]; exact (hb.2 j u hj).1) (by intro u hu; simp at hu; rcases hu with rfl | rfl | rfl | rfl | rfl | rfl | rfl | rfl <;> rfl) (by unfold maxLen; omega) (by omega) (Nat.le_refl _) ?_
 intro v' w' h1 h2 _
 exact h v' w' h1 h2
def unK (kd : Int) (a : Int) : PR → PR
 | .no x e => .no x e
 | .ok n l1 => .ok (.mk kd ByteArray.empty [n] a) l1
theorem un_eq (f lev d : Nat) (kd tag : Int) (sb : ByteArray) (hc : (lev = 2 ∧ kd = 7 ∧ tag = 4 ∧ sb = notB) ∨ (lev = 6 ∧ kd = 6 ∧ tag = 5 ∧ sb = b1 45)) (p : Tk) (l : List Tk) :
  par (f + 1) (.lv lev) d (p :: l) = if isT p [(tag, sb)] = true then (if d = 20 then .no p.2.2 31 else unK kd p.2.2 (par f (.lv lev) (d + 1) l)) else par f (.lv (lev + 1)) d (p :: l) := by
 rw [par_succ]; unfold pst; dsimp only
 rcases hc with ⟨rfl, rfl, rfl, rfl⟩ | ⟨rfl, rfl, rfl, rfl⟩
 ·rw [if_pos rfl]
  cases par f (.lv 2) (d + 1) l <;> rfl
 ·rw [if_neg (by omega), if_pos rfl]
  cases par f (.lv 6) (d + 1) l <;> rfl
theorem un_sg (kd tag : Int) (lev : Nat) (sb : ByteArray) (hc : (lev = 2 ∧ kd = 7 ∧ tag = 4 ∧ sb = notB) ∨ (lev = 6 ∧ kd = 6 ∧ tag = 5 ∧ sb = b1 45)) {r : Tk} (h : GoodT r) : sgB r sb = isT (mT r) [(tag, sb)] := by
 rcases hc with ⟨-, -, rfl, rfl⟩ | ⟨-, -, rfl, rfl⟩
 ·exact sg_word h (by unfold wrdL; simp)
 ·exact sg_sign h (by unfold sgnL; simp)
theorem rlv_un (g b cap : Nat) (T : List Tk) (hG : Hid (∀ x ∈ T, GoodT x)) (N lev : Nat) (kd tag : Int) (sb : ByteArray) (hc : (lev = 2 ∧ kd = 7 ∧ tag = 4 ∧ sb = notB) ∨ (lev = 6 ∧ kd = 6 ∧ tag = 5 ∧ sb = b1 45)) (HA : Hid (RLv g b cap T (lev + 1) N)) (HB : Hid (RLv g b cap T lev (N - 1))) : RLv g b cap T lev N := by
 intro w L d f h hL hd hN hf
 have HC0 : Hid ((lev = 2 ∧ kd = 7 ∧ tag = 4 ∧ sb = notB) ∨ (lev = 6 ∧ kd = 6 ∧ tag = 5 ∧ sb = b1 45)) := hc
 have hlev : lev ≤ 6 := by omega
 have hlw : IntKind.i64.wrap ((lev : Int) + 1) = (lev : Int) + 1 := by rw [IntKind.wrap_i64]; omega
 obtain ⟨r, l, rfl⟩ := mL_none hL
 obtain ⟨f, rfl⟩ : ∃ f', f = f' + 1 := ⟨f - 1, by simp only [need, mL_cons, List.length_cons] at hf; omega⟩
 have HGr : Hid (GoodT r) := h.good hG.out
 simp only [need, mL_cons, List.length_cons, mL_len] at hf hN
 have HL : Hid (EndL (mL (r :: l))) := hL
 obtain ⟨R, hR⟩ : ∃ R, par (f + 1) (.lv lev) d (mL (r :: l)) = R := ⟨_, rfl⟩
 rw [hR]
 rw [mL_cons, un_eq f lev d kd tag sb hc] at hR
 clear hL
 have hsg := un_sg kd tag lev sb hc HGr.out
 have hg := h.lt
 have hbl := h.tr.1
 have HP : Hid (RS g b cap T w (r :: l) d) := h
 have hza : (IntKind.i64.wrap 0 = 0) := by decide
 obtain ⟨pre, pa, cg0, cg1, cg2, fg0, fg1, t0, t1, t2, hgW, hbW, hlen, hmost, hle, hne, HEQ, HBX, HTR⟩ := RS.facts (h)
 clear h hc hza
 have B0 := bsn1 w [vi ki 0, .string ⟨#[]⟩, .slice none 0 0, vi ki 0] 30
 have X0 : Hid (BS w [(w.heap.size, [vi ki 0, .string ⟨#[]⟩, .slice none 0 0, vi ki 0])] (w.alloc (.cells #[vi ki 0, .string ⟨#[]⟩, .slice none 0 0, vi ki 0] 30)) ∧ RS g b cap T (w.alloc (.cells #[vi ki 0, .string ⟨#[]⟩, .slice none 0 0, vi ki 0] 30)) (r :: l) d) := ⟨B0.out, HP.out.below B0.out.1⟩
 go_enter Tryd.func18, Tryd.ntmps18
 go_upto_region 4 with fail
 refine gen_to (fun V => BS w [(w.heap.size, [vi ki 0, .string ⟨#[]⟩, .slice none 0 0, vi ki 0])] V ∧ RS g b cap T V (r :: l) d) X0.out ?_
 clear X0 B0 HP cg0 cg1 cg2 fg0 fg1 t0 t1 t2 hgW hbW hlen hmost hle HEQ HBX HTR hne
 rintro W0 ⟨k0, k1⟩
 have B0 : Hid (BS w [(w.heap.size, [vi ki 0, .string ⟨#[]⟩, .slice none 0 0, vi ki 0])] W0) := k0
 have HP0 : Hid (RS g b cap T W0 (r :: l) d) := k1
 clear k0 k1
 go_cut [32] from 27 to 32 (fun t V => t = .bool true ∧ W0 = V)
 case first =>
  rcases HC0.out with ⟨h, -⟩ | ⟨h, -⟩
  ·have hl2 : ((lev : Int) == 2) = true := by rw [beq_iff_eq]; omega
   clear h
   go_wp2_with fail
   go_meet
   case rel => exact ⟨rfl, rfl⟩
  ·have hl2 : ((lev : Int) == 2) = false := by rw [beq_eq_false_iff_ne]; omega
   have hl6 : ((lev : Int) == 6) = true := by rw [beq_iff_eq]; omega
   clear h
   go_wp2_with fail
   go_meet
   case rel => exact ⟨rfl, rfl⟩
 case rest =>
 obtain ⟨rfl, rfl⟩ := hcut
 go_upto_if 34 with fail
 go_cut [6, 7] from 33 to 34 (fun s k V => s = .string sb ∧ k = vi ki kd ∧ W0 = V)
 case first =>
  rcases HC0.out with ⟨h, rfl, -, rfl⟩ | ⟨h, rfl, -, rfl⟩
  ·have hl6 : ((lev : Int) == 6) = false := by rw [beq_eq_false_iff_ne]; omega
   clear h
   go_wp2_with fail
   go_meet
   case rel => exact ⟨rfl, rfl, rfl⟩
  ·have hl6 : ((lev : Int) == 6) = true := by rw [beq_iff_eq]; omega
   clear h
   go_wp2_with fail
   go_meet
   case rel => exact ⟨rfl, rfl, rfl⟩
 case rest =>
 obtain ⟨rfl, rfl, rfl⟩ := hcut
 by_cases hi : isT (mT r) [(tag, sb)] = true
 ·rw [hi] at hsg
  rw [if_pos hi] at hR
  have hEl : EndL (mL l) := EndL.tail HL.out (isT_kind hi (by rcases HC0.out with ⟨-, -, rfl, -⟩ | ⟨-, -, rfl, -⟩ <;> simp))
  obtain ⟨q, l0, rfl⟩ := mL_none hEl
  have HE1 : Hid (EndL (mL (q :: l0))) := hEl
  have HSi := rsign_any g b cap T (q :: l0) r HGr.out sb (fun _ => by simp) d W0 HP0.out
  rw [hsg, if_pos rfl] at HSi
  have HSg : Hid _ := HSi
  have HRR : Hid _ := hR
  clear HSi hsg hEl hi hR
  go_wp2_with fail
  refine Calls.mono HSg.out ?_
  rintro e W1 ⟨rfl, hk1, hr1⟩
  have hz1 : w.heap.size + 1 ≤ W1.heap.size := by have := hk1.size; have := B0.out.first.1; omega
  have K1 : Hid (Kp g w W1) := (Kp.of B0.out.1).trans hk1
  have H1 : Hid (Bx W1 w.heap.size [vi ki 0, .string ⟨#[]⟩, .slice none 0 0, vi ki 0]) := hk1.bx B0.out.first (by omega)
  have S1 : Hid (RS g b cap T W1 (q :: l0) d) := hr1
  have HGq : Hid (GoodT q) := hr1.good hG.out
  clear hk1 hr1 B0 HP0 HSg
  by_cases h20 : d = 20
  ·have HR9 : Hid (R = .no r.2.2 31) := by have := HRR.out; rw [if_pos h20] at this; exact this.symm
   subst h20
   have HIn : Hid _ := rinner_no g b (w.heap.size + 1) cap T l0 q HGq.out.size r.2.2 W1 S1.out
   clear HRR
   go_wp2_with fail
   refine Calls.mono HIn.out ?_
   rintro e W6 ⟨rfl, hk6, hf6⟩
   have K9 : Hid (Kp g w W6) := K1.out.trans hk6
   have H9 : Hid (Bx W6 w.heap.size [vi ki 0, .string ⟨#[]⟩, .slice none 0 0, vi ki 0]) := hk6.bx H1.out (by omega)
   have HF6 : Hid (RF g b (w.heap.size + 1) W6 r.2.2 31) := hf6
   clear hk6 hf6 HIn K1 H1 S1
   obtain ⟨y0', y1', y2', y3', HFK, HFO, HFS, rr0, rr1, rr2, rr3, rf0, rf1, rf2, rf3, hrw'⟩ := fin9 (vi ki 0) (.string ⟨#[]⟩) (.slice none 0 0) (vi ki 0) K9.out (Nat.le_refl _) (H9.out)
   go_wp2
   refine bodyPost_ret (v := .agg #[vi ki 0, .string ⟨#[]⟩, .slice none 0 0, vi ki 0]) (by simp [results, Tryd.results18, go_sem, y0', y1', y2', y3']) rfl ⟨HFK.out, by rw [HR9.out]; exact ⟨by decide, (HF6.out.off HFO.out HFS.out (by omega) (by omega) (by omega)).mono (by omega), _, _, _, _, _, _, rfl⟩⟩
  ·have HR8 : Hid _ := HRR.out
   rw [if_neg h20] at HR8
   have HIn : Hid _ := rinner_ok g b cap T l0 q d (by omega) r.2.2 W1 S1.out
   clear HRR
   go_wp2_with fail
   refine Calls.mono HIn.out ?_
   rintro e W3 ⟨rfl, hk3, hr3⟩
   have hz3 : w.heap.size + 1 ≤ W3.heap.size := by have := hk3.size; omega
   obtain ⟨B, hB⟩ : ∃ B, B = W3.heap.size := ⟨_, rfl⟩
   have X3 : Hid (BS W3 [(W3.heap.size, [vi ki kd, .string ⟨#[]⟩, .slice none 0 0, vi ki r.2.2])] (W3.alloc (.cells #[vi ki kd, .string ⟨#[]⟩, .slice none 0 0, vi ki r.2.2] 30))) := (BS.start W3).new [vi ki kd, .string ⟨#[]⟩, .slice none 0 0, vi ki r.2.2] 30 rfl
   have X4 : Hid (Kp g w (W3.alloc (.cells #[vi ki kd, .string ⟨#[]⟩, .slice none 0 0, vi ki r.2.2] 30)) ∧ Bx (W3.alloc (.cells #[vi ki kd, .string ⟨#[]⟩, .slice none 0 0, vi ki r.2.2] 30)) w.heap.size [vi ki 0, .string ⟨#[]⟩, .slice none 0 0, vi ki 0] ∧ Bx (W3.alloc (.cells #[vi ki kd, .string ⟨#[]⟩, .slice none 0 0, vi ki r.2.2] 30)) B [vi ki kd, .string ⟨#[]⟩, .slice none 0 0, vi ki r.2.2] ∧ RS g b cap T (W3.alloc (.cells #[vi ki kd, .string ⟨#[]⟩, .slice none 0 0, vi ki r.2.2] 30)) (q :: l0) (d + 1)) := ⟨(K1.out.trans hk3).alloc _, (hk3.bx H1.out (by omega)).alloc _, by rw [hB]; exact X3.out.first, hr3.below X3.out.1⟩
   have hBw : w.heap.size + 1 ≤ B := by omega
   have hBg : B ≠ g := by omega
   go_upto_region 15 with fail
   rw [← hB]
   refine gen_to (fun V => Kp g w V ∧ Bx V w.heap.size [vi ki 0, .string ⟨#[]⟩, .slice none 0 0, vi ki 0] ∧ Bx V B [vi ki kd, .string ⟨#[]⟩, .slice none 0 0, vi ki r.2.2] ∧ RS g b cap T V (q :: l0) (d + 1)) X4.out ?_
   clear X3 X4 hk3 hr3 K1 H1 S1 HIn hB
   intro W5 hW5
   have KK : Hid (Kp g w W5 ∧ Bx W5 w.heap.size [vi ki 0, .string ⟨#[]⟩, .slice none 0 0, vi ki 0] ∧ Bx W5 B [vi ki kd, .string ⟨#[]⟩, .slice none 0 0, vi ki r.2.2] ∧ RS g b cap T W5 (q :: l0) (d + 1)) := hW5
   clear hW5
   have HC := HB.out
   have hN1 : (q :: l0).length ≤ N - 1 := by simp only [List.length_cons] at hN ⊢; omega
   have hf1 : need (.lv lev) (mL (q :: l0)) ≤ f := by simp only [need, mL_len, List.length_cons] at hf ⊢; omega
   have HCC : Hid (∀ V : World, RS g b cap T V (q :: l0) (d + 1) → Calls Tryd.prog 18 #[.pointer (some ⟨g, 0, none⟩), vi ki (lev : Int)] V fun e w' => Kp g V w' ∧ ROut g b V.heap.size cap T (fun c => V.heap.size ≤ c) w' (d + 1) e (par f (.lv lev) (d + 1) (mL (q :: l0)))) := fun V hV => HC V _ (d + 1) f hV HE1.out (by omega) hN1 hf1
   clear HC
   cases hr : par f (.lv lev) (d + 1) (mL (q :: l0)) with
   | no ea er =>
    rw [hr] at HCC
    have HR9 : Hid (R = .no ea er) := by have := HR8.out; rw [hr] at this; exact this.symm
    clear hr HR8
    go_cut [] from 51 to 58 (fun V => er ≠ 0 ∧ ∃ sq' sn' sc', Kp g w V ∧ Bx V w.heap.size [vi ki 0, .string ⟨#[]⟩, .slice none 0 0, vi ki 0] ∧ Bx V B [vi ki kd, .string ⟨#[]⟩, .slice sq' sn' sc', vi ki r.2.2] ∧ RF g b (B + 1) V ea er)
    case first =>
     refine wp_region_held_drew (S := fun _ => True) (by kernel_rfl) trivial (fun hHeld => ?_)
     refine gen_anyR (fun V => Kp g w V ∧ Bx V w.heap.size [vi ki 0, .string ⟨#[]⟩, .slice none 0 0, vi ki 0] ∧ Bx V B [vi ki kd, .string ⟨#[]⟩, .slice none 0 0, vi ki r.2.2] ∧ RS g b cap T V (q :: l0) (d + 1)) ⟨KK.out.1.drew, KK.out.2.1, KK.out.2.2.1, KK.out.2.2.2.drew⟩ ?_
     clear hHeld KK
     intro W6 hW6
     have KK : Hid (Kp g w W6 ∧ Bx W6 w.heap.size [vi ki 0, .string ⟨#[]⟩, .slice none 0 0, vi ki 0] ∧ Bx W6 B [vi ki kd, .string ⟨#[]⟩, .slice none 0 0, vi ki r.2.2] ∧ RS g b cap T W6 (q :: l0) (d + 1)) := hW6
     clear hW6
     have hHeld : True := trivial
     refine tks 0 ⟨some 51, _, _, _, _, none⟩ rfl ?_
     simp only [za, zb, zc, zd]
     refine tks 2 ⟨some 53, _, _, _, _, none⟩ rfl ?_
     simp only [za, zb, zc, zd]
     refine tks 3 ⟨some 54, _, _, _, _, none⟩ rfl ?_
     simp only [za, zb, zc, zd]
     refine wpAnyH_ready (rs := [1, 4]) (by kernel_rfl) (by simp) (AllReadyH.cons (o := ⟨some 52, _, _, _, _, none⟩) rfl (fun K hK => ?_) (AllReadyH.cons (o := ⟨some 55, _, _, _, _, none⟩) rfl (fun K hK => ?_) AllReadyH.nil))
     ·
      have q0 := KK.out.2.2.1.c 2 rfl
      have q9 := KK.out.2.2.1.1
      go_simp
      refine hK.out _ _ trivial (fun hHeld => ?_)
      clear hK K q0 q9
      refine rd 4 ⟨some 55, _, _, _, _, none⟩ rfl (fun K hK => ?_)
      go_simp
      refine (HCC.out _ KK.out.2.2.2).mono ?_
      have hq9 := KK.out.2.2.1.1
      rintro e v2 ⟨hk2, her, hf, k9, u9, sq9, sn9, sc9, a9, rfl⟩
      refine hK.out _ _ trivial (fun hHeld => ?_)
      have HER : Hid (er ≠ 0) := her
      replace KK : Hid (Kp g w v2 ∧ Bx v2 w.heap.size [vi ki 0, .string ⟨#[]⟩, .slice none 0 0, vi ki 0] ∧ Bx v2 B [vi ki kd, .string ⟨#[]⟩, .slice none 0 0, vi ki r.2.2] ∧ RF g b (B + 1) v2 ea er) := ⟨KK.out.1.trans hk2, hk2.bx KK.out.2.1 (by omega), hk2.bx KK.out.2.2.1 hBg, hf.mono (by omega)⟩
      clear hK K hk2 hf her hq9
      refine rd 5 ⟨some 56, _, _, _, _, none⟩ rfl (fun K hK => ?_)
      have hwB := KK.out.2.2.1.1
      go_simp
      refine hK.out _ _ trivial (fun hHeld => ?_)
      obtain ⟨BR, hBR⟩ : ∃ BR, BR = v2.heap.size := ⟨_, rfl⟩
      have BN : Hid (BS v2 [(v2.heap.size, [vi ki k9, .string u9, .slice sq9 sn9 sc9, vi ki a9])] (v2.alloc (.cells #[vi ki k9, .string u9, .slice sq9 sn9 sc9, vi ki a9] 30))) := (BS.start v2).new [vi ki k9, .string u9, .slice sq9 sn9 sc9, vi ki a9] 30 rfl
      refine gen_anyR (fun V' => (Kp g w V' ∧ Bx V' w.heap.size [vi ki 0, .string ⟨#[]⟩, .slice none 0 0, vi ki 0] ∧ Bx V' B [vi ki kd, .string ⟨#[]⟩, .slice none 0 0, vi ki r.2.2] ∧ RF g b (B + 1) V' ea er) ∧ Bx V' BR [vi ki k9, .string u9, .slice sq9 sn9 sc9, vi ki a9]) ⟨⟨KK.out.1.alloc _, KK.out.2.1.alloc _, KK.out.2.2.1.alloc _, KK.out.2.2.2.below BN.out.1⟩, by rw [hBR]; exact BN.out.first⟩ ?_
      have hBR1 : B < BR := by omega
      rw [← hBR]
      clear hHeld hK K BN hBR hwB KK
      rintro v3 ⟨kk1, kk2⟩
      have KK : Hid (Kp g w v3 ∧ Bx v3 w.heap.size [vi ki 0, .string ⟨#[]⟩, .slice none 0 0, vi ki 0] ∧ Bx v3 B [vi ki kd, .string ⟨#[]⟩, .slice none 0 0, vi ki r.2.2] ∧ RF g b (B + 1) v3 ea er) := kk1
      have HRW : Hid (Bx v3 BR [vi ki k9, .string u9, .slice sq9 sn9 sc9, vi ki a9]) := kk2
      clear kk1 kk2
      have hHeld : True := trivial
      refine rd 6 ⟨some 57, _, _, _, _, none⟩ rfl (fun K hK => ?_)
      refine (if_pos (by kernel_rfl)).mpr (wp_row1 _ _ rfl rfl rfl HRW.out ?_)
      intro v' w4 hown' hgrow
      obtain ⟨sq', sn', sc', hv'⟩ := own_form hown'
      subst hv'
      have hgb : Below _ _ w4 := grown_below hgrow
      have HO : Hid (w4.ownsRow v3.heap.size 30 4 (.slice sq' sn' sc') 1 [vi ki k9, .string u9, .slice sq9 sn9 sc9, vi ki a9]) := hown'
      have hBV : B < v3.heap.size := KK.out.2.2.1.1
      have K4 : Hid (Kp g w w4 ∧ Bx w4 w.heap.size [vi ki 0, .string ⟨#[]⟩, .slice none 0 0, vi ki 0] ∧ Bx w4 B [vi ki kd, .string ⟨#[]⟩, .slice none 0 0, vi ki r.2.2] ∧ RF g b (B + 1) w4 ea er) := ⟨KK.out.1.trans (Kp.of hgb), KK.out.2.1.below hgb, KK.out.2.2.1.below hgb, KK.out.2.2.2.below hgb⟩
      refine hK.out _ _ trivial (fun hHeld => ?_)
      clear hK K hown' hgrow hgb KK HRW
      refine tks 7 ⟨some 58, _, _, _, _, none⟩ rfl ?_
      simp only [za, zb, zc, zd]
      refine rd 8 ⟨none, _, _, _, _, none⟩ rfl (fun K hK => ?_)
      have hoff : ∀ c, c < w4.heap.size → c ≠ B → (w4.setCell ⟨B, 2, none⟩ (.slice sq' sn' sc')).heap[c]? = w4.heap[c]? := fun c _ hc => Below.heap_setCell _ _ _ _ hc
      have K7 : Hid (Kp g w (w4.setCell ⟨B, 2, none⟩ (.slice sq' sn' sc')) ∧ Bx (w4.setCell ⟨B, 2, none⟩ (.slice sq' sn' sc')) w.heap.size [vi ki 0, .string ⟨#[]⟩, .slice none 0 0, vi ki 0] ∧ Bx (w4.setCell ⟨B, 2, none⟩ (.slice sq' sn' sc')) B [vi ki kd, .string ⟨#[]⟩, .slice sq' sn' sc', vi ki r.2.2] ∧ RF g b (B + 1) (w4.setCell ⟨B, 2, none⟩ (.slice sq' sn' sc')) ea er) := ⟨K4.out.1.set (p := ⟨B, 2, none⟩) (.inr (by show _ ≤ B; omega)) _, K4.out.2.1.setOther (by omega) [_] 2, K4.out.2.2.1.set1 2 _ (by simp), K4.out.2.2.2.off (r := B) hoff (by simp) (by omega) (by omega) (by omega)⟩
      have z2 := K4.out.2.2.1.f 2 rfl
      have c2 := K4.out.2.2.1.c 2 rfl
      have hB4 := K4.out.2.2.1.1
      go_simp
      refine hK.out _ _ trivial (fun hHeld => ?_)
      refine gen_anyR (fun V => Kp g w V ∧ Bx V w.heap.size [vi ki 0, .string ⟨#[]⟩, .slice none 0 0, vi ki 0] ∧ Bx V B [vi ki kd, .string ⟨#[]⟩, .slice sq' sn' sc', vi ki r.2.2] ∧ RF g b (B + 1) V ea er) K7.out ?_
      clear hK K z2 c2 hB4 K7 K4 HO hoff hHeld
      intro v5 KK
      have hHeld : True := trivial
      refine wpAnyH_done (by kernel_rfl) ?_ _
      go_wp2_with fail
      go_meet
      case rel => exact ⟨HER.out, sq', sn', sc', KK⟩
     ·
      go_simp
      refine (HCC.out _ KK.out.2.2.2).mono ?_
      have hq9 := KK.out.2.2.1.1
      rintro e v6 ⟨hk6, her, hf, k9, u9, sq9, sn9, sc9, a9, rfl⟩
      refine hK.out _ _ trivial (fun hHeld => ?_)
      have HER : Hid (er ≠ 0) := her
      replace KK : Hid (Kp g w v6 ∧ Bx v6 w.heap.size [vi ki 0, .string ⟨#[]⟩, .slice none 0 0, vi ki 0] ∧ Bx v6 B [vi ki kd, .string ⟨#[]⟩, .slice none 0 0, vi ki r.2.2] ∧ RF g b (B + 1) v6 ea er) := ⟨KK.out.1.trans hk6, hk6.bx KK.out.2.1 (by omega), hk6.bx KK.out.2.2.1 hBg, hf.mono (by omega)⟩
      clear hK K hk6 hf her hq9
      refine wpAnyH_ready (rs := [1, 5]) (by kernel_rfl) (by simp) (AllReadyH.cons (o := ⟨some 52, _, _, _, _, none⟩) rfl (fun K hK => ?_) (AllReadyH.cons (o := ⟨some 56, _, _, _, _, none⟩) rfl (fun K hK => ?_) AllReadyH.nil))
      ·
       have q0 := KK.out.2.2.1.c 2 rfl
       have q9 := KK.out.2.2.1.1
       go_simp
       refine hK.out _ _ trivial (fun hHeld => ?_)
       clear hK K q0 q9
       refine rd 5 ⟨some 56, _, _, _, _, none⟩ rfl (fun K hK => ?_)
       have hwB := KK.out.2.2.1.1
       go_simp
       refine hK.out _ _ trivial (fun hHeld => ?_)
       obtain ⟨BR, hBR⟩ : ∃ BR, BR = v6.heap.size := ⟨_, rfl⟩
       have BN : Hid (BS v6 [(v6.heap.size, [vi ki k9, .string u9, .slice sq9 sn9 sc9, vi ki a9])] (v6.alloc (.cells #[vi ki k9, .string u9, .slice sq9 sn9 sc9, vi ki a9] 30))) := (BS.start v6).new [vi ki k9, .string u9, .slice sq9 sn9 sc9, vi ki a9] 30 rfl
       refine gen_anyR (fun V' => (Kp g w V' ∧ Bx V' w.heap.size [vi ki 0, .string ⟨#[]⟩, .slice none 0 0, vi ki 0] ∧ Bx V' B [vi ki kd, .string ⟨#[]⟩, .slice none 0 0, vi ki r.2.2] ∧ RF g b (B + 1) V' ea er) ∧ Bx V' BR [vi ki k9, .string u9, .slice sq9 sn9 sc9, vi ki a9]) ⟨⟨KK.out.1.alloc _, KK.out.2.1.alloc _, KK.out.2.2.1.alloc _, KK.out.2.2.2.below BN.out.1⟩, by rw [hBR]; exact BN.out.first⟩ ?_
       have hBR1 : B < BR := by omega
       rw [← hBR]
       clear hHeld hK K BN hBR hwB KK
       rintro v8 ⟨kk1, kk2⟩
       have KK : Hid (Kp g w v8 ∧ Bx v8 w.heap.size [vi ki 0, .string ⟨#[]⟩, .slice none 0 0, vi ki 0] ∧ Bx v8 B [vi ki kd, .string ⟨#[]⟩, .slice none 0 0, vi ki r.2.2] ∧ RF g b (B + 1) v8 ea er) := kk1
       have HRW : Hid (Bx v8 BR [vi ki k9, .string u9, .slice sq9 sn9 sc9, vi ki a9]) := kk2
       clear kk1 kk2
       have hHeld : True := trivial
       refine rd 6 ⟨some 57, _, _, _, _, none⟩ rfl (fun K hK => ?_)
       refine (if_pos (by kernel_rfl)).mpr (wp_row1 _ _ rfl rfl rfl HRW.out ?_)
       intro v' w4 hown' hgrow
       obtain ⟨sq', sn', sc', hv'⟩ := own_form hown'
       subst hv'
       have hgb : Below _ _ w4 := grown_below hgrow
       have HO : Hid (w4.ownsRow v8.heap.size 30 4 (.slice sq' sn' sc') 1 [vi ki k9, .string u9, .slice sq9 sn9 sc9, vi ki a9]) := hown'
       have hBV : B < v8.heap.size := KK.out.2.2.1.1
       have K4 : Hid (Kp g w w4 ∧ Bx w4 w.heap.size [vi ki 0, .string ⟨#[]⟩, .slice none 0 0, vi ki 0] ∧ Bx w4 B [vi ki kd, .string ⟨#[]⟩, .slice none 0 0, vi ki r.2.2] ∧ RF g b (B + 1) w4 ea er) := ⟨KK.out.1.trans (Kp.of hgb), KK.out.2.1.below hgb, KK.out.2.2.1.below hgb, KK.out.2.2.2.below hgb⟩
       refine hK.out _ _ trivial (fun hHeld => ?_)
       clear hK K hown' hgrow hgb KK HRW
       refine tks 7 ⟨some 58, _, _, _, _, none⟩ rfl ?_
       simp only [za, zb, zc, zd]
       refine rd 8 ⟨none, _, _, _, _, none⟩ rfl (fun K hK => ?_)
       have hoff : ∀ c, c < w4.heap.size → c ≠ B → (w4.setCell ⟨B, 2, none⟩ (.slice sq' sn' sc')).heap[c]? = w4.heap[c]? := fun c _ hc => Below.heap_setCell _ _ _ _ hc
       have K7 : Hid (Kp g w (w4.setCell ⟨B, 2, none⟩ (.slice sq' sn' sc')) ∧ Bx (w4.setCell ⟨B, 2, none⟩ (.slice sq' sn' sc')) w.heap.size [vi ki 0, .string ⟨#[]⟩, .slice none 0 0, vi ki 0] ∧ Bx (w4.setCell ⟨B, 2, none⟩ (.slice sq' sn' sc')) B [vi ki kd, .string ⟨#[]⟩, .slice sq' sn' sc', vi ki r.2.2] ∧ RF g b (B + 1) (w4.setCell ⟨B, 2, none⟩ (.slice sq' sn' sc')) ea er) := ⟨K4.out.1.set (p := ⟨B, 2, none⟩) (.inr (by show _ ≤ B; omega)) _, K4.out.2.1.setOther (by omega) [_] 2, K4.out.2.2.1.set1 2 _ (by simp), K4.out.2.2.2.off (r := B) hoff (by simp) (by omega) (by omega) (by omega)⟩
       have z2 := K4.out.2.2.1.f 2 rfl
       have c2 := K4.out.2.2.1.c 2 rfl
       have hB4 := K4.out.2.2.1.1
       go_simp
       refine hK.out _ _ trivial (fun hHeld => ?_)
       refine gen_anyR (fun V => Kp g w V ∧ Bx V w.heap.size [vi ki 0, .string ⟨#[]⟩, .slice none 0 0, vi ki 0] ∧ Bx V B [vi ki kd, .string ⟨#[]⟩, .slice sq' sn' sc', vi ki r.2.2] ∧ RF g b (B + 1) V ea er) K7.out ?_
       clear hK K z2 c2 hB4 K7 K4 HO hoff hHeld
       intro v10 KK
       have hHeld : True := trivial
       refine wpAnyH_done (by kernel_rfl) ?_ _
       go_wp2_with fail
       go_meet
       case rel => exact ⟨HER.out, sq', sn', sc', KK⟩
      ·
       have hwB := KK.out.2.2.1.1
       go_simp
       refine hK.out _ _ trivial (fun hHeld => ?_)
       obtain ⟨BR, hBR⟩ : ∃ BR, BR = v6.heap.size := ⟨_, rfl⟩
       have BN : Hid (BS v6 [(v6.heap.size, [vi ki k9, .string u9, .slice sq9 sn9 sc9, vi ki a9])] (v6.alloc (.cells #[vi ki k9, .string u9, .slice sq9 sn9 sc9, vi ki a9] 30))) := (BS.start v6).new [vi ki k9, .string u9, .slice sq9 sn9 sc9, vi ki a9] 30 rfl
       refine gen_anyR (fun V' => (Kp g w V' ∧ Bx V' w.heap.size [vi ki 0, .string ⟨#[]⟩, .slice none 0 0, vi ki 0] ∧ Bx V' B [vi ki kd, .string ⟨#[]⟩, .slice none 0 0, vi ki r.2.2] ∧ RF g b (B + 1) V' ea er) ∧ Bx V' BR [vi ki k9, .string u9, .slice sq9 sn9 sc9, vi ki a9]) ⟨⟨KK.out.1.alloc _, KK.out.2.1.alloc _, KK.out.2.2.1.alloc _, KK.out.2.2.2.below BN.out.1⟩, by rw [hBR]; exact BN.out.first⟩ ?_
       have hBR1 : B < BR := by omega
       rw [← hBR]
       clear hHeld hK K BN hBR hwB KK
       rintro v11 ⟨kk1, kk2⟩
       have KK : Hid (Kp g w v11 ∧ Bx v11 w.heap.size [vi ki 0, .string ⟨#[]⟩, .slice none 0 0, vi ki 0] ∧ Bx v11 B [vi ki kd, .string ⟨#[]⟩, .slice none 0 0, vi ki r.2.2] ∧ RF g b (B + 1) v11 ea er) := kk1
       have HRW : Hid (Bx v11 BR [vi ki k9, .string u9, .slice sq9 sn9 sc9, vi ki a9]) := kk2
       clear kk1 kk2
       have hHeld : True := trivial
       refine rd 1 ⟨some 52, _, _, _, _, none⟩ rfl (fun K hK => ?_)
       have q0 := KK.out.2.2.1.c 2 rfl
       have q9 := KK.out.2.2.1.1
       go_simp
       refine hK.out _ _ trivial (fun hHeld => ?_)
       clear hK K q0 q9
       refine rd 6 ⟨some 57, _, _, _, _, none⟩ rfl (fun K hK => ?_)
       refine (if_pos (by kernel_rfl)).mpr (wp_row1 _ _ rfl rfl rfl HRW.out ?_)
       intro v' w4 hown' hgrow
       obtain ⟨sq', sn', sc', hv'⟩ := own_form hown'
       subst hv'
       have hgb : Below _ _ w4 := grown_below hgrow
       have HO : Hid (w4.ownsRow v11.heap.size 30 4 (.slice sq' sn' sc') 1 [vi ki k9, .string u9, .slice sq9 sn9 sc9, vi ki a9]) := hown'
       have hBV : B < v11.heap.size := KK.out.2.2.1.1
       have K4 : Hid (Kp g w w4 ∧ Bx w4 w.heap.size [vi ki 0, .string ⟨#[]⟩, .slice none 0 0, vi ki 0] ∧ Bx w4 B [vi ki kd, .string ⟨#[]⟩, .slice none 0 0, vi ki r.2.2] ∧ RF g b (B + 1) w4 ea er) := ⟨KK.out.1.trans (Kp.of hgb), KK.out.2.1.below hgb, KK.out.2.2.1.below hgb, KK.out.2.2.2.below hgb⟩
       refine hK.out _ _ trivial (fun hHeld => ?_)
       clear hK K hown' hgrow hgb KK HRW
       refine tks 7 ⟨some 58, _, _, _, _, none⟩ rfl ?_
       simp only [za, zb, zc, zd]
       refine rd 8 ⟨none, _, _, _, _, none⟩ rfl (fun K hK => ?_)
       have hoff : ∀ c, c < w4.heap.size → c ≠ B → (w4.setCell ⟨B, 2, none⟩ (.slice sq' sn' sc')).heap[c]? = w4.heap[c]? := fun c _ hc => Below.heap_setCell _ _ _ _ hc
       have K7 : Hid (Kp g w (w4.setCell ⟨B, 2, none⟩ (.slice sq' sn' sc')) ∧ Bx (w4.setCell ⟨B, 2, none⟩ (.slice sq' sn' sc')) w.heap.size [vi ki 0, .string ⟨#[]⟩, .slice none 0 0, vi ki 0] ∧ Bx (w4.setCell ⟨B, 2, none⟩ (.slice sq' sn' sc')) B [vi ki kd, .string ⟨#[]⟩, .slice sq' sn' sc', vi ki r.2.2] ∧ RF g b (B + 1) (w4.setCell ⟨B, 2, none⟩ (.slice sq' sn' sc')) ea er) := ⟨K4.out.1.set (p := ⟨B, 2, none⟩) (.inr (by show _ ≤ B; omega)) _, K4.out.2.1.setOther (by omega) [_] 2, K4.out.2.2.1.set1 2 _ (by simp), K4.out.2.2.2.off (r := B) hoff (by simp) (by omega) (by omega) (by omega)⟩
       have z2 := K4.out.2.2.1.f 2 rfl
       have c2 := K4.out.2.2.1.c 2 rfl
       have hB4 := K4.out.2.2.1.1
       go_simp
       refine hK.out _ _ trivial (fun hHeld => ?_)
       refine gen_anyR (fun V => Kp g w V ∧ Bx V w.heap.size [vi ki 0, .string ⟨#[]⟩, .slice none 0 0, vi ki 0] ∧ Bx V B [vi ki kd, .string ⟨#[]⟩, .slice sq' sn' sc', vi ki r.2.2] ∧ RF g b (B + 1) V ea er) K7.out ?_
       clear hK K z2 c2 hB4 K7 K4 HO hoff hHeld
       intro v14 KK
       have hHeld : True := trivial
       refine wpAnyH_done (by kernel_rfl) ?_ _
       go_wp2_with fail
       go_meet
       case rel => exact ⟨HER.out, sq', sn', sc', KK⟩
    case rest =>
     obtain ⟨her, sq', sn', sc', kk⟩ := hcut
     have KK : Hid (Kp g w wc ∧ Bx wc w.heap.size [vi ki 0, .string ⟨#[]⟩, .slice none 0 0, vi ki 0] ∧ Bx wc B [vi ki kd, .string ⟨#[]⟩, .slice sq' sn' sc', vi ki r.2.2] ∧ RF g b (B + 1) wc ea er) := kk
     have HER : Hid (er ≠ 0) := her
     clear kk her HCC
     obtain ⟨c9, o9, n9, m9, D9, i9, z9, t9, hc9, hb9, -⟩ := KK.out.2.2.2
     have cg1 := hb9.c 1 rfl
     have fg1 := hb9.f 1 rfl
     have hgl := hb9.1
     clear hb9 hc9
     go_upto_region 17 with fail
     refine gen_to (fun V => Kp g w V ∧ Bx V w.heap.size [vi ki 0, .string ⟨#[]⟩, .slice none 0 0, vi ki 0] ∧ RF g b (B + 1) V ea er ∧ Bx V B [vi ki kd, .string ⟨#[]⟩, .slice sq' sn' sc', vi ki r.2.2]) (rdeep_bad hg KK.out.1 KK.out.2.1 (by omega) KK.out.2.2.2 KK.out.2.2.1 hBg) ?_
     rintro W8 ⟨k8, h8, f8, t8⟩
     have HK5 : Hid (Kp g w W8) := k8
     have HH5 : Hid (Bx W8 w.heap.size [vi ki 0, .string ⟨#[]⟩, .slice none 0 0, vi ki 0]) := h8
     have HF5 : Hid (RF g b (B + 1) W8 ea er) := f8
     obtain ⟨l0', l1', l2', l3'⟩ := t8.d4
     have hl' := t8.1
     clear k8 h8 f8 t8 cg1 fg1 hgl KK
     obtain ⟨y0', y1', y2', y3', HFK, HFO, HFS, rr0, rr1, rr2, rr3, rf0, rf1, rf2, rf3, hrw'⟩ := fin9 (vi ki kd) (.string ⟨#[]⟩) (.slice sq' sn' sc') (vi ki r.2.2) HK5.out (Nat.le_refl _) (HH5.out)
     go_wp2
     refine bodyPost_ret (v := .agg #[vi ki kd, .string ⟨#[]⟩, .slice sq' sn' sc', vi ki r.2.2]) (by simp [results, Tryd.results18, go_sem, y0', y1', y2', y3']) rfl ⟨HFK.out, by rw [HR9.out]; exact ⟨HER.out, (HF5.out.off HFO.out HFS.out (by omega) (by omega) (by omega)).mono (by omega), _, _, _, _, _, _, rfl⟩⟩
   | ok n l1 =>
    rw [hr] at HCC
    have HR9 : Hid (R = .ok (.mk kd ByteArray.empty [n] r.2.2) l1) := by have := HR8.out; rw [hr] at this; exact this.symm
    clear hr HR8
    go_cut [] from 51 to 58 (fun V => ∃ L1 R1 cp1, l1 = mL L1 ∧ Kp g w V ∧ Bx V w.heap.size [vi ki 0, .string ⟨#[]⟩, .slice none 0 0, vi ki 0] ∧ Bx V B [vi ki kd, .string ⟨#[]⟩, .slice (some ⟨R1, 0, none⟩) 1 cp1, vi ki r.2.2] ∧ RS g b cap T V L1 (d + 1) ∧ EndL (mL L1) ∧ NdAt (fun c => B < c) V (.mk kd ByteArray.empty [n] r.2.2) [vi ki kd, .string ⟨#[]⟩, .slice (some ⟨R1, 0, none⟩) 1 cp1, vi ki r.2.2])
    case first =>
     refine wp_region_held_drew (S := fun _ => True) (by kernel_rfl) trivial (fun hHeld => ?_)
     refine gen_anyR (fun V => Kp g w V ∧ Bx V w.heap.size [vi ki 0, .string ⟨#[]⟩, .slice none 0 0, vi ki 0] ∧ Bx V B [vi ki kd, .string ⟨#[]⟩, .slice none 0 0, vi ki r.2.2] ∧ RS g b cap T V (q :: l0) (d + 1)) ⟨KK.out.1.drew, KK.out.2.1, KK.out.2.2.1, KK.out.2.2.2.drew⟩ ?_
     clear hHeld KK
     intro W6 hW6
     have KK : Hid (Kp g w W6 ∧ Bx W6 w.heap.size [vi ki 0, .string ⟨#[]⟩, .slice none 0 0, vi ki 0] ∧ Bx W6 B [vi ki kd, .string ⟨#[]⟩, .slice none 0 0, vi ki r.2.2] ∧ RS g b cap T W6 (q :: l0) (d + 1)) := hW6
     clear hW6
     have hHeld : True := trivial
     refine tks 0 ⟨some 51, _, _, _, _, none⟩ rfl ?_
     simp only [za, zb, zc, zd]
     refine tks 2 ⟨some 53, _, _, _, _, none⟩ rfl ?_
     simp only [za, zb, zc, zd]
     refine tks 3 ⟨some 54, _, _, _, _, none⟩ rfl ?_
     simp only [za, zb, zc, zd]
     refine wpAnyH_ready (rs := [1, 4]) (by kernel_rfl) (by simp) (AllReadyH.cons (o := ⟨some 52, _, _, _, _, none⟩) rfl (fun K hK => ?_) (AllReadyH.cons (o := ⟨some 55, _, _, _, _, none⟩) rfl (fun K hK => ?_) AllReadyH.nil))
     ·
      have q0 := KK.out.2.2.1.c 2 rfl
      have q9 := KK.out.2.2.1.1
      go_simp
      refine hK.out _ _ trivial (fun hHeld => ?_)
      clear hK K q0 q9
      refine rd 4 ⟨some 55, _, _, _, _, none⟩ rfl (fun K hK => ?_)
      go_simp
      refine (HCC.out _ KK.out.2.2.2).mono ?_
      have hq9 := KK.out.2.2.1.1
      rintro e v2 ⟨hk2, L1, hl2, hrs, hend, k9, u9, sq9, sn9, sc9, a9, rfl, hnd⟩
      refine hK.out _ _ trivial (fun hHeld => ?_)
      subst hl2
      replace KK : Hid (Kp g w v2 ∧ Bx v2 w.heap.size [vi ki 0, .string ⟨#[]⟩, .slice none 0 0, vi ki 0] ∧ Bx v2 B [vi ki kd, .string ⟨#[]⟩, .slice none 0 0, vi ki r.2.2] ∧ RS g b cap T v2 L1 (d + 1) ∧ EndL (mL L1) ∧ NdAt (fun c => B < c) v2 n [vi ki k9, .string u9, .slice sq9 sn9 sc9, vi ki a9]) := ⟨KK.out.1.trans hk2, hk2.bx KK.out.2.1 (by omega), hk2.bx KK.out.2.2.1 hBg, hrs, hend, NdAt.keep (Nat.le_refl _) (fun c hc _ => ⟨by omega, rfl⟩) _ _ hnd⟩
      clear hK K hk2 hrs hend hnd hq9
      refine rd 5 ⟨some 56, _, _, _, _, none⟩ rfl (fun K hK => ?_)
      have hwB := KK.out.2.2.1.1
      go_simp
      refine hK.out _ _ trivial (fun hHeld => ?_)
      obtain ⟨BR, hBR⟩ : ∃ BR, BR = v2.heap.size := ⟨_, rfl⟩
      have BN : Hid (BS v2 [(v2.heap.size, [vi ki k9, .string u9, .slice sq9 sn9 sc9, vi ki a9])] (v2.alloc (.cells #[vi ki k9, .string u9, .slice sq9 sn9 sc9, vi ki a9] 30))) := (BS.start v2).new [vi ki k9, .string u9, .slice sq9 sn9 sc9, vi ki a9] 30 rfl
      refine gen_anyR (fun V' => (Kp g w V' ∧ Bx V' w.heap.size [vi ki 0, .string ⟨#[]⟩, .slice none 0 0, vi ki 0] ∧ Bx V' B [vi ki kd, .string ⟨#[]⟩, .slice none 0 0, vi ki r.2.2] ∧ RS g b cap T V' L1 (d + 1) ∧ EndL (mL L1) ∧ NdAt (fun c => B < c) V' n [vi ki k9, .string u9, .slice sq9 sn9 sc9, vi ki a9]) ∧ Bx V' BR [vi ki k9, .string u9, .slice sq9 sn9 sc9, vi ki a9]) ⟨⟨KK.out.1.alloc _, KK.out.2.1.alloc _, KK.out.2.2.1.alloc _, KK.out.2.2.2.1.below BN.out.1, KK.out.2.2.2.2.1, KK.out.2.2.2.2.2.below BN.out.1⟩, by rw [hBR]; exact BN.out.first⟩ ?_
      have hBR1 : B < BR := by omega
      rw [← hBR]
      clear hHeld hK K BN hBR hwB KK
      rintro v3 ⟨kk1, kk2⟩
      have KK : Hid (Kp g w v3 ∧ Bx v3 w.heap.size [vi ki 0, .string ⟨#[]⟩, .slice none 0 0, vi ki 0] ∧ Bx v3 B [vi ki kd, .string ⟨#[]⟩, .slice none 0 0, vi ki r.2.2] ∧ RS g b cap T v3 L1 (d + 1) ∧ EndL (mL L1) ∧ NdAt (fun c => B < c) v3 n [vi ki k9, .string u9, .slice sq9 sn9 sc9, vi ki a9]) := kk1
      have HRW : Hid (Bx v3 BR [vi ki k9, .string u9, .slice sq9 sn9 sc9, vi ki a9]) := kk2
      clear kk1 kk2
      have hHeld : True := trivial
      refine rd 6 ⟨some 57, _, _, _, _, none⟩ rfl (fun K hK => ?_)
      refine (if_pos (by kernel_rfl)).mpr (wp_row1 _ _ rfl rfl rfl HRW.out ?_)
      intro v' w4 hown' hgrow
      obtain ⟨sq', sn', sc', hv'⟩ := own_form hown'
      subst hv'
      have hgb : Below _ _ w4 := grown_below hgrow
      have HO : Hid (w4.ownsRow v3.heap.size 30 4 (.slice sq' sn' sc') 1 [vi ki k9, .string u9, .slice sq9 sn9 sc9, vi ki a9]) := hown'
      have hBV : B < v3.heap.size := KK.out.2.2.1.1
      have K4 : Hid (Kp g w w4 ∧ Bx w4 w.heap.size [vi ki 0, .string ⟨#[]⟩, .slice none 0 0, vi ki 0] ∧ Bx w4 B [vi ki kd, .string ⟨#[]⟩, .slice none 0 0, vi ki r.2.2] ∧ RS g b cap T w4 L1 (d + 1) ∧ EndL (mL L1) ∧ NdAt (fun c => B < c) w4 n [vi ki k9, .string u9, .slice sq9 sn9 sc9, vi ki a9]) := ⟨KK.out.1.trans (Kp.of hgb), KK.out.2.1.below hgb, KK.out.2.2.1.below hgb, KK.out.2.2.2.1.below hgb, KK.out.2.2.2.2.1, KK.out.2.2.2.2.2.below hgb⟩
      refine hK.out _ _ trivial (fun hHeld => ?_)
      clear hK K hown' hgrow hgb KK HRW
      refine tks 7 ⟨some 58, _, _, _, _, none⟩ rfl ?_
      simp only [za, zb, zc, zd]
      refine rd 8 ⟨none, _, _, _, _, none⟩ rfl (fun K hK => ?_)
      obtain ⟨R1, cp1, hv1, hc1, hc2, hR1, hR2, hRw⟩ := row_one HO.out K4.out.2.2.2.2.2
      obtain ⟨rfl, rfl, rfl⟩ : sq' = some ⟨R1, 0, none⟩ ∧ sn' = 1 ∧ sc' = cp1 := by cases hv1; exact ⟨rfl, rfl, rfl⟩
      have hn7 : NdAt (fun c => B < c) w4 (.mk kd ByteArray.empty [n] r.2.2) [vi ki kd, .string ⟨#[]⟩, .slice (some ⟨R1, 0, none⟩) 1 sc', vi ki r.2.2] := NdAt.row (ks := [n]) (by simp) hc1 hc2 (by omega) hR2 hRw
      have hoff : ∀ c, c < w4.heap.size → c ≠ B → (w4.setCell ⟨B, 2, none⟩ (.slice (some ⟨R1, 0, none⟩) 1 sc')).heap[c]? = w4.heap[c]? := fun c _ hc => Below.heap_setCell _ _ _ _ hc
      have K7 : Hid (Kp g w (w4.setCell ⟨B, 2, none⟩ (.slice (some ⟨R1, 0, none⟩) 1 sc')) ∧ Bx (w4.setCell ⟨B, 2, none⟩ (.slice (some ⟨R1, 0, none⟩) 1 sc')) w.heap.size [vi ki 0, .string ⟨#[]⟩, .slice none 0 0, vi ki 0] ∧ Bx (w4.setCell ⟨B, 2, none⟩ (.slice (some ⟨R1, 0, none⟩) 1 sc')) B [vi ki kd, .string ⟨#[]⟩, .slice (some ⟨R1, 0, none⟩) 1 sc', vi ki r.2.2] ∧ RS g b cap T (w4.setCell ⟨B, 2, none⟩ (.slice (some ⟨R1, 0, none⟩) 1 sc')) L1 (d + 1) ∧ EndL (mL L1) ∧ NdAt (fun c => B < c) (w4.setCell ⟨B, 2, none⟩ (.slice (some ⟨R1, 0, none⟩) 1 sc')) (.mk kd ByteArray.empty [n] r.2.2) [vi ki kd, .string ⟨#[]⟩, .slice (some ⟨R1, 0, none⟩) 1 sc', vi ki r.2.2]) := ⟨K4.out.1.set (p := ⟨B, 2, none⟩) (.inr (by show _ ≤ B; omega)) _, K4.out.2.1.setOther (by omega) [_] 2, K4.out.2.2.1.set1 2 _ (by simp), K4.out.2.2.2.1.off (r := B) hoff (by simp) (by omega) (by omega), K4.out.2.2.2.2.1, hn7.off (r := B) hoff (by simp) (fun c hc => ⟨hc, by omega⟩)⟩
      have z2 := K4.out.2.2.1.f 2 rfl
      have c2 := K4.out.2.2.1.c 2 rfl
      have hB4 := K4.out.2.2.1.1
      go_simp
      refine hK.out _ _ trivial (fun hHeld => ?_)
      refine gen_anyR (fun V => Kp g w V ∧ Bx V w.heap.size [vi ki 0, .string ⟨#[]⟩, .slice none 0 0, vi ki 0] ∧ Bx V B [vi ki kd, .string ⟨#[]⟩, .slice (some ⟨R1, 0, none⟩) 1 sc', vi ki r.2.2] ∧ RS g b cap T V L1 (d + 1) ∧ EndL (mL L1) ∧ NdAt (fun c => B < c) V (.mk kd ByteArray.empty [n] r.2.2) [vi ki kd, .string ⟨#[]⟩, .slice (some ⟨R1, 0, none⟩) 1 sc', vi ki r.2.2]) K7.out ?_
      clear hK K z2 c2 hB4 K7 K4 HO hoff hHeld hn7 hRw hv1
      intro v5 KK
      have hHeld : True := trivial
      refine wpAnyH_done (by kernel_rfl) ?_ _
      go_wp2_with fail
      go_meet
      case rel => exact ⟨L1, R1, sc', rfl, KK⟩
     ·
      go_simp
      refine (HCC.out _ KK.out.2.2.2).mono ?_
      have hq9 := KK.out.2.2.1.1
      rintro e v6 ⟨hk6, L1, hl6, hrs, hend, k9, u9, sq9, sn9, sc9, a9, rfl, hnd⟩
      refine hK.out _ _ trivial (fun hHeld => ?_)
      subst hl6
      replace KK : Hid (Kp g w v6 ∧ Bx v6 w.heap.size [vi ki 0, .string ⟨#[]⟩, .slice none 0 0, vi ki 0] ∧ Bx v6 B [vi ki kd, .string ⟨#[]⟩, .slice none 0 0, vi ki r.2.2] ∧ RS g b cap T v6 L1 (d + 1) ∧ EndL (mL L1) ∧ NdAt (fun c => B < c) v6 n [vi ki k9, .string u9, .slice sq9 sn9 sc9, vi ki a9]) := ⟨KK.out.1.trans hk6, hk6.bx KK.out.2.1 (by omega), hk6.bx KK.out.2.2.1 hBg, hrs, hend, NdAt.keep (Nat.le_refl _) (fun c hc _ => ⟨by omega, rfl⟩) _ _ hnd⟩
      clear hK K hk6 hrs hend hnd hq9
      refine wpAnyH_ready (rs := [1, 5]) (by kernel_rfl) (by simp) (AllReadyH.cons (o := ⟨some 52, _, _, _, _, none⟩) rfl (fun K hK => ?_) (AllReadyH.cons (o := ⟨some 56, _, _, _, _, none⟩) rfl (fun K hK => ?_) AllReadyH.nil))
      ·
       have q0 := KK.out.2.2.1.c 2 rfl
       have q9 := KK.out.2.2.1.1
       go_simp
       refine hK.out _ _ trivial (fun hHeld => ?_)
       clear hK K q0 q9
       refine rd 5 ⟨some 56, _, _, _, _, none⟩ rfl (fun K hK => ?_)
       have hwB := KK.out.2.2.1.1
       go_simp
       refine hK.out _ _ trivial (fun hHeld => ?_)
       obtain ⟨BR, hBR⟩ : ∃ BR, BR = v6.heap.size := ⟨_, rfl⟩
       have BN : Hid (BS v6 [(v6.heap.size, [vi ki k9, .string u9, .slice sq9 sn9 sc9, vi ki a9])] (v6.alloc (.cells #[vi ki k9, .string u9, .slice sq9 sn9 sc9, vi ki a9] 30))) := (BS.start v6).new [vi ki k9, .string u9, .slice sq9 sn9 sc9, vi ki a9] 30 rfl
       refine gen_anyR (fun V' => (Kp g w V' ∧ Bx V' w.heap.size [vi ki 0, .string ⟨#[]⟩, .slice none 0 0, vi ki 0] ∧ Bx V' B [vi ki kd, .string ⟨#[]⟩, .slice none 0 0, vi ki r.2.2] ∧ RS g b cap T V' L1 (d + 1) ∧ EndL (mL L1) ∧ NdAt (fun c => B < c) V' n [vi ki k9, .string u9, .slice sq9 sn9 sc9, vi ki a9]) ∧ Bx V' BR [vi ki k9, .string u9, .slice sq9 sn9 sc9, vi ki a9]) ⟨⟨KK.out.1.alloc _, KK.out.2.1.alloc _, KK.out.2.2.1.alloc _, KK.out.2.2.2.1.below BN.out.1, KK.out.2.2.2.2.1, KK.out.2.2.2.2.2.below BN.out.1⟩, by rw [hBR]; exact BN.out.first⟩ ?_
       have hBR1 : B < BR := by omega
       rw [← hBR]
       clear hHeld hK K BN hBR hwB KK
       rintro v8 ⟨kk1, kk2⟩
       have KK : Hid (Kp g w v8 ∧ Bx v8 w.heap.size [vi ki 0, .string ⟨#[]⟩, .slice none 0 0, vi ki 0] ∧ Bx v8 B [vi ki kd, .string ⟨#[]⟩, .slice none 0 0, vi ki r.2.2] ∧ RS g b cap T v8 L1 (d + 1) ∧ EndL (mL L1) ∧ NdAt (fun c => B < c) v8 n [vi ki k9, .string u9, .slice sq9 sn9 sc9, vi ki a9]) := kk1
       have HRW : Hid (Bx v8 BR [vi ki k9, .string u9, .slice sq9 sn9 sc9, vi ki a9]) := kk2
       clear kk1 kk2
       have hHeld : True := trivial
       refine rd 6 ⟨some 57, _, _, _, _, none⟩ rfl (fun K hK => ?_)
       refine (if_pos (by kernel_rfl)).mpr (wp_row1 _ _ rfl rfl rfl HRW.out ?_)
       intro v' w4 hown' hgrow
       obtain ⟨sq', sn', sc', hv'⟩ := own_form hown'
       subst hv'
       have hgb : Below _ _ w4 := grown_below hgrow
       have HO : Hid (w4.ownsRow v8.heap.size 30 4 (.slice sq' sn' sc') 1 [vi ki k9, .string u9, .slice sq9 sn9 sc9, vi ki a9]) := hown'
       have hBV : B < v8.heap.size := KK.out.2.2.1.1
       have K4 : Hid (Kp g w w4 ∧ Bx w4 w.heap.size [vi ki 0, .string ⟨#[]⟩, .slice none 0 0, vi ki 0] ∧ Bx w4 B [vi ki kd, .string ⟨#[]⟩, .slice none 0 0, vi ki r.2.2] ∧ RS g b cap T w4 L1 (d + 1) ∧ EndL (mL L1) ∧ NdAt (fun c => B < c) w4 n [vi ki k9, .string u9, .slice sq9 sn9 sc9, vi ki a9]) := ⟨KK.out.1.trans (Kp.of hgb), KK.out.2.1.below hgb, KK.out.2.2.1.below hgb, KK.out.2.2.2.1.below hgb, KK.out.2.2.2.2.1, KK.out.2.2.2.2.2.below hgb⟩
       refine hK.out _ _ trivial (fun hHeld => ?_)
       clear hK K hown' hgrow hgb KK HRW
       refine tks 7 ⟨some 58, _, _, _, _, none⟩ rfl ?_
       simp only [za, zb, zc, zd]
       refine rd 8 ⟨none, _, _, _, _, none⟩ rfl (fun K hK => ?_)
       obtain ⟨R1, cp1, hv1, hc1, hc2, hR1, hR2, hRw⟩ := row_one HO.out K4.out.2.2.2.2.2
       obtain ⟨rfl, rfl, rfl⟩ : sq' = some ⟨R1, 0, none⟩ ∧ sn' = 1 ∧ sc' = cp1 := by cases hv1; exact ⟨rfl, rfl, rfl⟩
       have hn7 : NdAt (fun c => B < c) w4 (.mk kd ByteArray.empty [n] r.2.2) [vi ki kd, .string ⟨#[]⟩, .slice (some ⟨R1, 0, none⟩) 1 sc', vi ki r.2.2] := NdAt.row (ks := [n]) (by simp) hc1 hc2 (by omega) hR2 hRw
       have hoff : ∀ c, c < w4.heap.size → c ≠ B → (w4.setCell ⟨B, 2, none⟩ (.slice (some ⟨R1, 0, none⟩) 1 sc')).heap[c]? = w4.heap[c]? := fun c _ hc => Below.heap_setCell _ _ _ _ hc
       have K7 : Hid (Kp g w (w4.setCell ⟨B, 2, none⟩ (.slice (some ⟨R1, 0, none⟩) 1 sc')) ∧ Bx (w4.setCell ⟨B, 2, none⟩ (.slice (some ⟨R1, 0, none⟩) 1 sc')) w.heap.size [vi ki 0, .string ⟨#[]⟩, .slice none 0 0, vi ki 0] ∧ Bx (w4.setCell ⟨B, 2, none⟩ (.slice (some ⟨R1, 0, none⟩) 1 sc')) B [vi ki kd, .string ⟨#[]⟩, .slice (some ⟨R1, 0, none⟩) 1 sc', vi ki r.2.2] ∧ RS g b cap T (w4.setCell ⟨B, 2, none⟩ (.slice (some ⟨R1, 0, none⟩) 1 sc')) L1 (d + 1) ∧ EndL (mL L1) ∧ NdAt (fun c => B < c) (w4.setCell ⟨B, 2, none⟩ (.slice (some ⟨R1, 0, none⟩) 1 sc')) (.mk kd ByteArray.empty [n] r.2.2) [vi ki kd, .string ⟨#[]⟩, .slice (some ⟨R1, 0, none⟩) 1 sc', vi ki r.2.2]) := ⟨K4.out.1.set (p := ⟨B, 2, none⟩) (.inr (by show _ ≤ B; omega)) _, K4.out.2.1.setOther (by omega) [_] 2, K4.out.2.2.1.set1 2 _ (by simp), K4.out.2.2.2.1.off (r := B) hoff (by simp) (by omega) (by omega), K4.out.2.2.2.2.1, hn7.off (r := B) hoff (by simp) (fun c hc => ⟨hc, by omega⟩)⟩
       have z2 := K4.out.2.2.1.f 2 rfl
       have c2 := K4.out.2.2.1.c 2 rfl
       have hB4 := K4.out.2.2.1.1
       go_simp
       refine hK.out _ _ trivial (fun hHeld => ?_)
       refine gen_anyR (fun V => Kp g w V ∧ Bx V w.heap.size [vi ki 0, .string ⟨#[]⟩, .slice none 0 0, vi ki 0] ∧ Bx V B [vi ki kd, .string ⟨#[]⟩, .slice (some ⟨R1, 0, none⟩) 1 sc', vi ki r.2.2] ∧ RS g b cap T V L1 (d + 1) ∧ EndL (mL L1) ∧ NdAt (fun c => B < c) V (.mk kd ByteArray.empty [n] r.2.2) [vi ki kd, .string ⟨#[]⟩, .slice (some ⟨R1, 0, none⟩) 1 sc', vi ki r.2.2]) K7.out ?_
       clear hK K z2 c2 hB4 K7 K4 HO hoff hHeld hn7 hRw hv1
       intro v10 KK
       have hHeld : True := trivial
       refine wpAnyH_done (by kernel_rfl) ?_ _
       go_wp2_with fail
       go_meet
       case rel => exact ⟨L1, R1, sc', rfl, KK⟩
      ·
       have hwB := KK.out.2.2.1.1
       go_simp
       refine hK.out _ _ trivial (fun hHeld => ?_)
       obtain ⟨BR, hBR⟩ : ∃ BR, BR = v6.heap.size := ⟨_, rfl⟩
       have BN : Hid (BS v6 [(v6.heap.size, [vi ki k9, .string u9, .slice sq9 sn9 sc9, vi ki a9])] (v6.alloc (.cells #[vi ki k9, .string u9, .slice sq9 sn9 sc9, vi ki a9] 30))) := (BS.start v6).new [vi ki k9, .string u9, .slice sq9 sn9 sc9, vi ki a9] 30 rfl
       refine gen_anyR (fun V' => (Kp g w V' ∧ Bx V' w.heap.size [vi ki 0, .string ⟨#[]⟩, .slice none 0 0, vi ki 0] ∧ Bx V' B [vi ki kd, .string ⟨#[]⟩, .slice none 0 0, vi ki r.2.2] ∧ RS g b cap T V' L1 (d + 1) ∧ EndL (mL L1) ∧ NdAt (fun c => B < c) V' n [vi ki k9, .string u9, .slice sq9 sn9 sc9, vi ki a9]) ∧ Bx V' BR [vi ki k9, .string u9, .slice sq9 sn9 sc9, vi ki a9]) ⟨⟨KK.out.1.alloc _, KK.out.2.1.alloc _, KK.out.2.2.1.alloc _, KK.out.2.2.2.1.below BN.out.1, KK.out.2.2.2.2.1, KK.out.2.2.2.2.2.below BN.out.1⟩, by rw [hBR]; exact BN.out.first⟩ ?_
       have hBR1 : B < BR := by omega
       rw [← hBR]
       clear hHeld hK K BN hBR hwB KK
       rintro v11 ⟨kk1, kk2⟩
       have KK : Hid (Kp g w v11 ∧ Bx v11 w.heap.size [vi ki 0, .string ⟨#[]⟩, .slice none 0 0, vi ki 0] ∧ Bx v11 B [vi ki kd, .string ⟨#[]⟩, .slice none 0 0, vi ki r.2.2] ∧ RS g b cap T v11 L1 (d + 1) ∧ EndL (mL L1) ∧ NdAt (fun c => B < c) v11 n [vi ki k9, .string u9, .slice sq9 sn9 sc9, vi ki a9]) := kk1
       have HRW : Hid (Bx v11 BR [vi ki k9, .string u9, .slice sq9 sn9 sc9, vi ki a9]) := kk2
       clear kk1 kk2
       have hHeld : True := trivial
       refine rd 1 ⟨some 52, _, _, _, _, none⟩ rfl (fun K hK => ?_)
       have q0 := KK.out.2.2.1.c 2 rfl
       have q9 := KK.out.2.2.1.1
       go_simp
       refine hK.out _ _ trivial (fun hHeld => ?_)
       clear hK K q0 q9
       refine rd 6 ⟨some 57, _, _, _, _, none⟩ rfl (fun K hK => ?_)
       refine (if_pos (by kernel_rfl)).mpr (wp_row1 _ _ rfl rfl rfl HRW.out ?_)
       intro v' w4 hown' hgrow
       obtain ⟨sq', sn', sc', hv'⟩ := own_form hown'
       subst hv'
       have hgb : Below _ _ w4 := grown_below hgrow
       have HO : Hid (w4.ownsRow v11.heap.size 30 4 (.slice sq' sn' sc') 1 [vi ki k9, .string u9, .slice sq9 sn9 sc9, vi ki a9]) := hown'
       have hBV : B < v11.heap.size := KK.out.2.2.1.1
       have K4 : Hid (Kp g w w4 ∧ Bx w4 w.heap.size [vi ki 0, .string ⟨#[]⟩, .slice none 0 0, vi ki 0] ∧ Bx w4 B [vi ki kd, .string ⟨#[]⟩, .slice none 0 0, vi ki r.2.2] ∧ RS g b cap T w4 L1 (d + 1) ∧ EndL (mL L1) ∧ NdAt (fun c => B < c) w4 n [vi ki k9, .string u9, .slice sq9 sn9 sc9, vi ki a9]) := ⟨KK.out.1.trans (Kp.of hgb), KK.out.2.1.below hgb, KK.out.2.2.1.below hgb, KK.out.2.2.2.1.below hgb, KK.out.2.2.2.2.1, KK.out.2.2.2.2.2.below hgb⟩
       refine hK.out _ _ trivial (fun hHeld => ?_)
       clear hK K hown' hgrow hgb KK HRW
       refine tks 7 ⟨some 58, _, _, _, _, none⟩ rfl ?_
       simp only [za, zb, zc, zd]
       refine rd 8 ⟨none, _, _, _, _, none⟩ rfl (fun K hK => ?_)
       obtain ⟨R1, cp1, hv1, hc1, hc2, hR1, hR2, hRw⟩ := row_one HO.out K4.out.2.2.2.2.2
       obtain ⟨rfl, rfl, rfl⟩ : sq' = some ⟨R1, 0, none⟩ ∧ sn' = 1 ∧ sc' = cp1 := by cases hv1; exact ⟨rfl, rfl, rfl⟩
       have hn7 : NdAt (fun c => B < c) w4 (.mk kd ByteArray.empty [n] r.2.2) [vi ki kd, .string ⟨#[]⟩, .slice (some ⟨R1, 0, none⟩) 1 sc', vi ki r.2.2] := NdAt.row (ks := [n]) (by simp) hc1 hc2 (by omega) hR2 hRw
       have hoff : ∀ c, c < w4.heap.size → c ≠ B → (w4.setCell ⟨B, 2, none⟩ (.slice (some ⟨R1, 0, none⟩) 1 sc')).heap[c]? = w4.heap[c]? := fun c _ hc => Below.heap_setCell _ _ _ _ hc
       have K7 : Hid (Kp g w (w4.setCell ⟨B, 2, none⟩ (.slice (some ⟨R1, 0, none⟩) 1 sc')) ∧ Bx (w4.setCell ⟨B, 2, none⟩ (.slice (some ⟨R1, 0, none⟩) 1 sc')) w.heap.size [vi ki 0, .string ⟨#[]⟩, .slice none 0 0, vi ki 0] ∧ Bx (w4.setCell ⟨B, 2, none⟩ (.slice (some ⟨R1, 0, none⟩) 1 sc')) B [vi ki kd, .string ⟨#[]⟩, .slice (some ⟨R1, 0, none⟩) 1 sc', vi ki r.2.2] ∧ RS g b cap T (w4.setCell ⟨B, 2, none⟩ (.slice (some ⟨R1, 0, none⟩) 1 sc')) L1 (d + 1) ∧ EndL (mL L1) ∧ NdAt (fun c => B < c) (w4.setCell ⟨B, 2, none⟩ (.slice (some ⟨R1, 0, none⟩) 1 sc')) (.mk kd ByteArray.empty [n] r.2.2) [vi ki kd, .string ⟨#[]⟩, .slice (some ⟨R1, 0, none⟩) 1 sc', vi ki r.2.2]) := ⟨K4.out.1.set (p := ⟨B, 2, none⟩) (.inr (by show _ ≤ B; omega)) _, K4.out.2.1.setOther (by omega) [_] 2, K4.out.2.2.1.set1 2 _ (by simp), K4.out.2.2.2.1.off (r := B) hoff (by simp) (by omega) (by omega), K4.out.2.2.2.2.1, hn7.off (r := B) hoff (by simp) (fun c hc => ⟨hc, by omega⟩)⟩
       have z2 := K4.out.2.2.1.f 2 rfl
       have c2 := K4.out.2.2.1.c 2 rfl
       have hB4 := K4.out.2.2.1.1
       go_simp
       refine hK.out _ _ trivial (fun hHeld => ?_)
       refine gen_anyR (fun V => Kp g w V ∧ Bx V w.heap.size [vi ki 0, .string ⟨#[]⟩, .slice none 0 0, vi ki 0] ∧ Bx V B [vi ki kd, .string ⟨#[]⟩, .slice (some ⟨R1, 0, none⟩) 1 sc', vi ki r.2.2] ∧ RS g b cap T V L1 (d + 1) ∧ EndL (mL L1) ∧ NdAt (fun c => B < c) V (.mk kd ByteArray.empty [n] r.2.2) [vi ki kd, .string ⟨#[]⟩, .slice (some ⟨R1, 0, none⟩) 1 sc', vi ki r.2.2]) K7.out ?_
       clear hK K z2 c2 hB4 K7 K4 HO hoff hHeld hn7 hRw hv1
       intro v14 KK
       have hHeld : True := trivial
       refine wpAnyH_done (by kernel_rfl) ?_ _
       go_wp2_with fail
       go_meet
       case rel => exact ⟨L1, R1, sc', rfl, KK⟩
    case rest =>
     obtain ⟨L1, R1, cp1, rfl, kk⟩ := hcut
     have KK : Hid (Kp g w wc ∧ Bx wc w.heap.size [vi ki 0, .string ⟨#[]⟩, .slice none 0 0, vi ki 0] ∧ Bx wc B [vi ki kd, .string ⟨#[]⟩, .slice (some ⟨R1, 0, none⟩) 1 cp1, vi ki r.2.2] ∧ RS g b cap T wc L1 (d + 1) ∧ EndL (mL L1) ∧ NdAt (fun c => B < c) wc (.mk kd ByteArray.empty [n] r.2.2) [vi ki kd, .string ⟨#[]⟩, .slice (some ⟨R1, 0, none⟩) 1 cp1, vi ki r.2.2]) := kk
     clear kk HCC
     obtain ⟨⟨pre4, pa4, he4, hb4⟩, -⟩ := KK.out.2.2.2.1
     have cg1 := hb4.c 1 rfl
     have fg1 := hb4.f 1 rfl
     have hgl := hb4.1
     clear hb4 he4
     have hdw : IntKind.i64.wrap ((d : Int) + 1 - 1) = (d : Int) := by rw [IntKind.wrap_i64]; omega
     have hdw2 : IntKind.i64.wrap (d : Int) = (d : Int) := by rw [IntKind.wrap_i64]; omega
     go_upto_region 17 with fail
     refine gen_to (fun V => Kp g w V ∧ Bx V w.heap.size [vi ki 0, .string ⟨#[]⟩, .slice none 0 0, vi ki 0] ∧ RS g b cap T V L1 d ∧ Bx V B [vi ki kd, .string ⟨#[]⟩, .slice (some ⟨R1, 0, none⟩) 1 cp1, vi ki r.2.2] ∧ NdAt (fun c => B < c) V (.mk kd ByteArray.empty [n] r.2.2) [vi ki kd, .string ⟨#[]⟩, .slice (some ⟨R1, 0, none⟩) 1 cp1, vi ki r.2.2]) (rdeep_ok hg KK.out.1 KK.out.2.1 (by omega) KK.out.2.2.2.1 KK.out.2.2.1 hBg KK.out.2.2.2.2.2 (fun c hc => by omega)) ?_
     have HE5 : Hid (EndL (mL L1)) := KK.out.2.2.2.2.1
     rintro W8 ⟨k8, h8, s8, t8, n8⟩
     have HK5 : Hid (Kp g w W8) := k8
     have HH5 : Hid (Bx W8 w.heap.size [vi ki 0, .string ⟨#[]⟩, .slice none 0 0, vi ki 0]) := h8
     have HS5 : Hid (RS g b cap T W8 L1 d) := s8
     have HN5 : Hid (NdAt (fun c => B < c) W8 (.mk kd ByteArray.empty [n] r.2.2) [vi ki kd, .string ⟨#[]⟩, .slice (some ⟨R1, 0, none⟩) 1 cp1, vi ki r.2.2]) := n8
     obtain ⟨l0', l1', l2', l3'⟩ := t8.d4
     have hl' := t8.1
     clear k8 h8 s8 t8 n8 cg1 fg1 hgl KK
     obtain ⟨y0', y1', y2', y3', HFK, HFO, HFS, rr0, rr1, rr2, rr3, rf0, rf1, rf2, rf3, hrw'⟩ := fin9 (vi ki kd) (.string ⟨#[]⟩) (.slice (some ⟨R1, 0, none⟩) 1 cp1) (vi ki r.2.2) HK5.out (Nat.le_refl _) (HH5.out)
     go_wp2
     refine bodyPost_ret (v := .agg #[vi ki kd, .string ⟨#[]⟩, .slice (some ⟨R1, 0, none⟩) 1 cp1, vi ki r.2.2]) (by simp [results, Tryd.results18, go_sem, y0', y1', y2', y3']) rfl ⟨HFK.out, by rw [HR9.out]; exact ⟨L1, rfl, HS5.out.off HFO.out HFS.out (by omega) (by omega), HE5.out, _, _, _, _, _, _, rfl, HN5.out.off HFO.out HFS.out (fun c hc => ⟨by omega, by omega⟩)⟩⟩
 ·rw [Bool.not_eq_true] at hi
  rw [hi] at hsg hR
  rw [if_neg (by simp)] at hR
  have HSi := rsign_any g b cap T l r HGr.out sb (fun z => by rw [hsg] at z; cases z) d W0 HP0.out
  rw [hsg, if_neg (by simp)] at HSi
  have HSg : Hid _ := HSi
  clear HSi hsg hi
  have HCC : Hid (∀ V : World, RS g b cap T V (r :: l) d → Calls Tryd.prog 18 #[.pointer (some ⟨g, 0, none⟩), vi ki ((lev : Int) + 1)] V fun e w' => Kp g V w' ∧ ROut g b V.heap.size cap T (fun c => V.heap.size ≤ c) w' d e R) := fun V hV => by rw [← hR]; exact HA.out V (r :: l) d f hV HL.out hd (by simp only [List.length_cons]; omega) (by simp only [need, mL_cons, List.length_cons, mL_len]; omega)
  clear hR
  go_wp2_with fail
  refine Calls.mono HSg.out ?_
  rintro e W1 ⟨rfl, hk1, hr1⟩
  have hz1 : w.heap.size + 1 ≤ W1.heap.size := by have := hk1.size; have := B0.out.first.1; omega
  have K1 : Hid (Kp g w W1) := (Kp.of B0.out.1).trans hk1
  have H1 : Hid (Bx W1 w.heap.size [vi ki 0, .string ⟨#[]⟩, .slice none 0 0, vi ki 0]) := hk1.bx B0.out.first (by omega)
  have S1 : Hid (RS g b cap T W1 (r :: l) d) := hr1
  clear hk1 hr1 B0 HP0 HSg
  go_wp2_with fail
  refine (HCC.out _ S1.out).mono ?_
  rintro e W2 ⟨hk2, ho⟩
  have hz2 : w.heap.size + 1 ≤ W2.heap.size := by have := hk2.size; omega
  have K2 : Hid (Kp g w W2) := K1.out.trans hk2
  have H2 : Hid (Bx W2 w.heap.size [vi ki 0, .string ⟨#[]⟩, .slice none 0 0, vi ki 0]) := hk2.bx H1.out (by omega)
  clear hk2 HCC K1 H1 S1
  cases R with
  | no ea er =>
   obtain ⟨her, hf, k9, u9, sq9, sn9, sc9, a9, rfl⟩ := ho
   have HF : Hid (RF g b (w.heap.size + 1) W2 ea er) := hf.mono (by omega)
   have HER : Hid (er ≠ 0) := her
   clear hf her
   obtain ⟨y0', y1', y2', y3', HFK, HFO, HFS, rr0, rr1, rr2, rr3, rf0, rf1, rf2, rf3, hrw'⟩ := fin9 (vi ki k9) (.string u9) (.slice sq9 sn9 sc9) (vi ki a9) K2.out (Nat.le_refl _) (H2.out)
   go_wp2
   refine bodyPost_ret (v := .agg #[vi ki k9, .string u9, .slice sq9 sn9 sc9, vi ki a9]) (by simp [results, Tryd.results18, go_sem, y0', y1', y2', y3']) rfl ⟨HFK.out, HER.out, (HF.out.off HFO.out HFS.out (by omega) (by omega) (by omega)).mono (by omega), _, _, _, _, _, _, rfl⟩
  | ok n l1 =>
   obtain ⟨L1, rfl, hrs, hend, k9, u9, sq9, sn9, sc9, a9, rfl, hnd⟩ := ho
   have HS : Hid (RS g b cap T W2 L1 d) := hrs
   have HE1 : Hid (EndL (mL L1)) := hend
   have HNd : Hid (NdAt (fun c => w.heap.size + 1 ≤ c) W2 n [vi ki k9, .string u9, .slice sq9 sn9 sc9, vi ki a9]) := NdAt.keep (Nat.le_refl _) (fun c hc _ => ⟨by omega, rfl⟩) _ _ hnd
   clear hrs hend hnd
   obtain ⟨y0', y1', y2', y3', HFK, HFO, HFS, rr0, rr1, rr2, rr3, rf0, rf1, rf2, rf3, hrw'⟩ := fin9 (vi ki k9) (.string u9) (.slice sq9 sn9 sc9) (vi ki a9) K2.out (Nat.le_refl _) (H2.out)
   go_wp2
   refine bodyPost_ret (v := .agg #[vi ki k9, .string u9, .slice sq9 sn9 sc9, vi ki a9]) (by simp [results, Tryd.results18, go_sem, y0', y1', y2', y3']) rfl ⟨HFK.out, L1, rfl, HS.out.off HFO.out HFS.out (by omega) (by omega), HE1.out, _, _, _, _, _, _, rfl, HNd.out.off HFO.out HFS.out (fun c hc => ⟨by omega, by omega⟩)⟩
theorem rlv_2 (g b cap : Nat) (T : List Tk) (hG : Hid (∀ x ∈ T, GoodT x)) (N : Nat) (HA : Hid (RLv g b cap T 3 N)) (HB : Hid (RLv g b cap T 2 (N - 1))) : RLv g b cap T 2 N := rlv_un g b cap T hG N 2 7 4 notB (.inl ⟨rfl, rfl, rfl, rfl⟩) HA HB
theorem rlv_6 (g b cap : Nat) (T : List Tk) (hG : Hid (∀ x ∈ T, GoodT x)) (N : Nat) (HA : Hid (RLv g b cap T 7 N)) (HB : Hid (RLv g b cap T 6 (N - 1))) : RLv g b cap T 6 N := rlv_un g b cap T hG N 6 6 5 (b1 45) (.inr ⟨rfl, rfl, rfl, rfl⟩) HA HB
end Go.Proofs.YtaoocecipacnhaaDoor
