import Derived.Test.YtaoocecipacnhaaDoorX14
open Go.Value renaming int → vi, string → vS, slice → vL
open Go.IntKind renaming i64 → ki
open List renaming setIfInBounds_toArray → zb, set_cons_zero → zc, set_cons_succ → zd, length_cons → zl
open Go.Act renaming put → za
open Go.Ending renaming returned → zr
set_option maxRecDepth 100000
set_option maxHeartbeats 16000000
set_option linter.all false
namespace Go.Proofs.YtaoocecipacnhaaDoor
open Go.RowKit
theorem row_one {V : World} {base : Nat} {X : Nat → Prop} {v : Value} {n : Nd} {c0 c1 c2 c3 : Value} (h : V.ownsRow base 30 4 v 1 [c0, c1, c2, c3]) (hn : NdAt X V n [c0, c1, c2, c3]) :
  ∃ R cap, v = vL (some ⟨R, 0, none⟩) 1 cap ∧ 1 ≤ cap ∧ cap ≤ maxLen ∧ base ≤ R ∧ R < V.heap.size ∧ RwAt X V R 0 [n] := by
 rcases h.2 with ⟨_, z⟩ | ⟨R, cap, cur, e, h1, h2, h3, h4, _⟩
 ·cases z
 ·subst e
  refine ⟨R, cap, rfl, h3, h4, h1, (Array.getElem?_eq_some_iff.1 h2).1, ?_⟩
  have c := fun j hj => h.cellAt j hj
  rw [RwAt]
  exact ⟨⟨c0, c1, c2, c3, c 0 (by omega), c 1 (by omega), c 2 (by omega), c 3 (by omega), hn⟩, by rw [RwAt]; trivial⟩
theorem grown_below {w W : World} (h : w.grownBy W none) : Below w.heap.size w W := ⟨h.os, h.tape, h.output, h.size, fun c hc => h.block c hc (fun q => by cases q)⟩
theorem infoNode22 : (Tryd.prog.info? 30).map (fun i => (i.zero, i.size, i.bytes)) = some (some (.agg #[vi ki 0, vS ByteArray.empty, vL none 0 0, vi ki 0]), 4, 56) := by kernel_rfl
theorem wp_row1 {o : Oper} {a : Act} {K : Act → World → Prop} {Q : Exit → Act → World → Prop} {w : World} (s x : Operand) (ho : o.op = .call { callee := .builtin .append, args := #[s, x], argTypes := #[28, 28] }) (hs : a.eval s = vL none 0 0) {BR : Nat} {kx : Int} {tx : ByteArray} {qx : Option Addr} {nx cx : Nat} {ax : Int}
  (hx : a.eval x = vL (some ⟨BR, 0, none⟩) 1 1) (hb : Bx w BR [vi ki kx, vS tx, vL qx nx cx, vi ki ax]) (h : ∀ v' w', w'.ownsRow w.heap.size 30 4 v' 1 [vi ki kx, vS tx, vL qx nx cx, vi ki ax] → w.grownBy w' none → K (a.put o.dst v') w') : o.wp Tryd.prog a w K Q := by
 obtain ⟨i0, hi0, iz0, iz1, iz2⟩ := info_parts infoNode22
 refine wp_append_own _ s x 28 ho w.heap.size 30 i0 (.agg #[vi ki 0, vS ByteArray.empty, vL none 0 0, vi ki 0]) 4 56 Tryd.underlying28 hi0 iz0 iz1 iz2 rfl (by decide) (vL none 0 0) 0 [] hs (World.ownsRow_nil _ _ _ _) ⟨BR, 0, none⟩ 1 1 [vi ki kx, vS tx, vL qx nx cx, vi ki ax] hx rfl (fun j u hj => by rw [show (⟨BR, 0, none⟩ : Addr).add j = ⟨BR, j, none⟩ from by rw [Addr.add_lit]; simp]; exact (hb.2 j u hj).1) (by intro u hu; simp at hu; rcases hu with rfl | rfl | rfl | rfl <;> rfl) (by unfold maxLen; omega) (by omega) (Nat.le_refl _) ?_
 intro v' w' h1 h2 _
 exact h v' w' h1 h2
theorem wp_row2 {o : Oper} {a : Act} {K : Act → World → Prop} {Q : Exit → Act → World → Prop} {w : World} (s x : Operand) (ho : o.op = .call { callee := .builtin .append, args := #[s, x], argTypes := #[28, 28] }) (hs : a.eval s = vL none 0 0) {BR : Nat} {kx : Int} {tx : ByteArray} {qx : Option Addr} {nx cx : Nat} {ax : Int} {ky : Int} {ty : ByteArray} {qy : Option Addr} {ny cy : Nat} {ay : Int}
  (hx : a.eval x = vL (some ⟨BR, 0, none⟩) 2 2) (hb : Bx w BR [vi ki kx, vS tx, vL qx nx cx, vi ki ax, vi ki ky, vS ty, vL qy ny cy, vi ki ay]) (h : ∀ v' w', w'.ownsRow w.heap.size 30 4 v' 2 [vi ki kx, vS tx, vL qx nx cx, vi ki ax, vi ki ky, vS ty, vL qy ny cy, vi ki ay] → w.grownBy w' none → K (a.put o.dst v') w') : o.wp Tryd.prog a w K Q := by
 obtain ⟨i0, hi0, iz0, iz1, iz2⟩ := info_parts infoNode22
 refine wp_append_own _ s x 28 ho w.heap.size 30 i0 (.agg #[vi ki 0, vS ByteArray.empty, vL none 0 0, vi ki 0]) 4 56 Tryd.underlying28 hi0 iz0 iz1 iz2 rfl (by decide) (vL none 0 0) 0 [] hs (World.ownsRow_nil _ _ _ _) ⟨BR, 0, none⟩ 2 2 [vi ki kx, vS tx, vL qx nx cx, vi ki ax, vi ki ky, vS ty, vL qy ny cy, vi ki ay] hx rfl (fun j u hj => by rw [show (⟨BR, 0, none⟩ : Addr).add j = ⟨BR, j, none⟩ from by rw [Addr.add_lit]; simp]; exact (hb.2 j u hj).1) (by intro u hu; simp at hu; rcases hu with rfl | rfl | rfl | rfl | rfl | rfl | rfl | rfl <;> rfl) (by unfold maxLen; omega) (by omega) (Nat.le_refl _) ?_
 intro v' w' h1 h2 _
 exact h v' w' h1 h2
def unK (kd : Int) (a : Int) : PR → PR
 | .no x e => .no x e
 | .ok n l1 => .ok (.mk kd ByteArray.empty [n] a) l1
theorem un_eq (f lev d : Nat) (kd tag : Int) (sb : ByteArray) (hc : (lev = 2 ∧ kd = 7 ∧ tag = 4 ∧ sb = notB) ∨ (lev = 6 ∧ kd = 6 ∧ tag = 5 ∧ sb = b1 45)) (p : Tk) (l : List Tk) :
  par (f + 1) (.lv lev) d (p :: l) = if isT p [(tag, sb)] = true then (if d = 20 then .no p.2.2 31 else unK kd p.2.2 (par f (.lv lev) (d + 1) l)) else par f (.lv (lev + 1)) d (p :: l) := by
 rw [par_succ]; unfold pst; dsimp only
 rcases hc with ⟨rfl, rfl, rfl, rfl⟩ | ⟨rfl, rfl, rfl, rfl⟩
 ·rw [if_pos rfl]
  cases par f (.lv 2) (d + 1) l <;> rfl
 ·rw [if_neg (by omega), if_pos rfl]
  cases par f (.lv 6) (d + 1) l <;> rfl
theorem un_sg (kd tag : Int) (lev : Nat) (sb : ByteArray) (hc : (lev = 2 ∧ kd = 7 ∧ tag = 4 ∧ sb = notB) ∨ (lev = 6 ∧ kd = 6 ∧ tag = 5 ∧ sb = b1 45)) {r : Tk} (h : GoodT r) : sgB r sb = isT (mT r) [(tag, sb)] := by
 rcases hc with ⟨-, -, rfl, rfl⟩ | ⟨-, -, rfl, rfl⟩
 ·exact sg_word h (by unfold wrdL; simp)
 ·exact sg_sign h (by unfold sgnL; simp)
theorem rlv_un (g b cap : Nat) (T : List Tk) (hG : Hid (∀ x ∈ T, GoodT x)) (N lev : Nat) (kd tag : Int) (sb : ByteArray) (hc : (lev = 2 ∧ kd = 7 ∧ tag = 4 ∧ sb = notB) ∨ (lev = 6 ∧ kd = 6 ∧ tag = 5 ∧ sb = b1 45)) (HA : Hid (RLv g b cap T (lev + 1) N)) (HB : Hid (RLv g b cap T lev (N - 1))) : RLv g b cap T lev N := by
 intro w L d f h hL hd hN hf
 have HC0 := hZz hc
 have hlev : lev ≤ 6 := by omega
 have hlw : IntKind.i64.wrap ((lev : Int) + 1) = (lev : Int) + 1 := by rw [IntKind.wrap_i64]; omega
 obtain ⟨r, l, rfl⟩ := mL_none hL
 obtain ⟨f, rfl⟩ : ∃ f', f = f' + 1 := ⟨f - 1, by simp only [need, mL_cons, zl] at hf; omega⟩
 have HGr : Hid (GoodT r) := h.good hG.out
 simp only [need, mL_cons, zl, mL_len] at hf hN
 have HL := hZz hL
 obtain ⟨R, hR⟩ : ∃ R, par (f + 1) (.lv lev) d (mL (r :: l)) = R := ⟨_, rfl⟩
 rw [hR]
 rw [mL_cons, un_eq f lev d kd tag sb hc] at hR
 clear hL
 have hsg := un_sg kd tag lev sb hc HGr.out
 have hg := h.lt
 have hbl := h.tr.1
 have HP := hZz h
 have hza : (IntKind.i64.wrap 0 = 0) := by decide
 obtain ⟨pre, pa, cg0, cg1, cg2, fg0, fg1, t0, t1, t2, hgW, hbW, hlen, hmost, hle, hne, HEQ, HBX, HTR⟩ := RS.facts (h)
 clear h hc hza
 have B0 := bsn1 w [vi ki 0, vS ⟨#[]⟩, vL none 0 0, vi ki 0] 30
 have X0 : Hid (BS w [(w.heap.size, [vi ki 0, vS ⟨#[]⟩, vL none 0 0, vi ki 0])] (w.alloc (.cells #[vi ki 0, vS ⟨#[]⟩, vL none 0 0, vi ki 0] 30)) ∧ RS g b cap T (w.alloc (.cells #[vi ki 0, vS ⟨#[]⟩, vL none 0 0, vi ki 0] 30)) (r :: l) d) := ⟨B0.out, HP.out.below B0.out.1⟩
 go_enter Tryd.func18, Tryd.ntmps18
 go_upto_region 4 with fail
 refine gen_to (fun V => BS w [(w.heap.size, [vi ki 0, vS ⟨#[]⟩, vL none 0 0, vi ki 0])] V ∧ RS g b cap T V (r :: l) d) X0.out ?_
 clear X0 B0 HP cg0 cg1 cg2 fg0 fg1 t0 t1 t2 hgW hbW hlen hmost hle HEQ HBX HTR hne
 rintro W0 ⟨k0, k1⟩
 have B0 := hZz k0
 have HP0 := hZz k1
 clear k0 k1
 go_cut [32] from 27 to 32 (fun t V => t = .bool true ∧ W0 = V)
 case first =>
  rcases HC0.out with ⟨h, -⟩ | ⟨h, -⟩
  ·have hl2 : ((lev : Int) == 2) = true := by rw [beq_iff_eq]; omega
   clear h
   go_wp2_with fail
   go_meet
   case rel => exact ⟨rfl, rfl⟩
  ·have hl2 : ((lev : Int) == 2) = false := by rw [beq_eq_false_iff_ne]; omega
   have hl6 : ((lev : Int) == 6) = true := by rw [beq_iff_eq]; omega
   clear h
   go_wp2_with fail
   go_meet
   case rel => exact ⟨rfl, rfl⟩
 case rest =>
 obtain ⟨rfl, rfl⟩ := hcut
 go_upto_if 34 with fail
 go_cut [6, 7] from 33 to 34 (fun s k V => s = vS sb ∧ k = vi ki kd ∧ W0 = V)
 case first =>
  rcases HC0.out with ⟨h, rfl, -, rfl⟩ | ⟨h, rfl, -, rfl⟩
  ·have hl6 : ((lev : Int) == 6) = false := by rw [beq_eq_false_iff_ne]; omega
   clear h
   go_wp2_with fail
   go_meet
   case rel => exact ⟨rfl, rfl, rfl⟩
  ·have hl6 : ((lev : Int) == 6) = true := by rw [beq_iff_eq]; omega
   clear h
   go_wp2_with fail
   go_meet
   case rel => exact ⟨rfl, rfl, rfl⟩
 case rest =>
 obtain ⟨rfl, rfl, rfl⟩ := hcut
 by_cases hi : isT (mT r) [(tag, sb)] = true
 ·rw [hi] at hsg
  rw [if_pos hi] at hR
  have hEl : EndL (mL l) := EndL.tail HL.out (isT_kind hi (by rcases HC0.out with ⟨-, -, rfl, -⟩ | ⟨-, -, rfl, -⟩ <;> simp))
  obtain ⟨q, l0, rfl⟩ := mL_none hEl
  have HE1 := hZz hEl
  have HSi := rsign_any g b cap T (q :: l0) r HGr.out sb (fun _ => by simp) d W0 HP0.out
  rw [hsg, if_pos rfl] at HSi
  have HSg : Hid _ := HSi
  have HRR : Hid _ := hR
  clear HSi hsg hEl hi hR
  go_wp2_with fail
  refine Calls.mono HSg.out ?_
  rintro e W1 ⟨rfl, hk1, hr1⟩
  have hz1 : w.heap.size + 1 ≤ W1.heap.size := by have := hk1.size; have := B0.out.first.1; omega
  have K1 : Hid (Kp g w W1) := (Kp.of B0.out.1).trans hk1
  have H1 : Hid (Bx W1 w.heap.size [vi ki 0, vS ⟨#[]⟩, vL none 0 0, vi ki 0]) := hk1.bx B0.out.first (by omega)
  have S1 := hZz hr1
  have HGq : Hid (GoodT q) := hr1.good hG.out
  clear hk1 hr1 B0 HP0 HSg
  by_cases h20 : d = 20
  ·have HR9 : Hid (R = .no r.2.2 31) := by have := HRR.out; rw [if_pos h20] at this; exact this.symm
   subst h20
   have HIn : Hid _ := rinner_no g b (w.heap.size + 1) cap T l0 q HGq.out.size r.2.2 W1 S1.out
   clear HRR
   go_wp2_with fail
   refine Calls.mono HIn.out ?_
   rintro e W6 ⟨rfl, hk6, hf6⟩
   have K9 : Hid (Kp g w W6) := K1.out.trans hk6
   have H9 : Hid (Bx W6 w.heap.size [vi ki 0, vS ⟨#[]⟩, vL none 0 0, vi ki 0]) := hk6.bx H1.out (by omega)
   have HF6 := hZz hf6
   clear hk6 hf6 HIn K1 H1 S1
   obtain ⟨y0', y1', y2', y3', HFK, HFO, HFS, rr0, rr1, rr2, rr3, rf0, rf1, rf2, rf3, hrw'⟩ := fin9 (vi ki 0) (vS ⟨#[]⟩) (vL none 0 0) (vi ki 0) K9.out (Nat.le_refl _) (H9.out)
   go_wp2
   refine bodyPost_ret (v := .agg #[vi ki 0, vS ⟨#[]⟩, vL none 0 0, vi ki 0]) (by simp [results, Tryd.results18, go_sem, y0', y1', y2', y3']) rfl ⟨HFK.out, by rw [HR9.out]; exact ⟨by decide, (HF6.out.off HFO.out HFS.out (by omega) (by omega) (by omega)).mono (by omega), _, _, _, _, _, _, rfl⟩⟩
  ·have HR8 : Hid _ := HRR.out
   rw [if_neg h20] at HR8
   have HIn : Hid _ := rinner_ok g b cap T l0 q d (by omega) r.2.2 W1 S1.out
   clear HRR
   go_wp2_with fail
   refine Calls.mono HIn.out ?_
   rintro e W3 ⟨rfl, hk3, hr3⟩
   have hz3 : w.heap.size + 1 ≤ W3.heap.size := by have := hk3.size; omega
   obtain ⟨B, hB⟩ : ∃ B, B = W3.heap.size := ⟨_, rfl⟩
   have X3 := bsm1 W3 [vi ki kd, vS ⟨#[]⟩, vL none 0 0, vi ki r.2.2] 30
   have X4 : Hid (Kp g w (W3.alloc (.cells #[vi ki kd, vS ⟨#[]⟩, vL none 0 0, vi ki r.2.2] 30)) ∧ Bx (W3.alloc (.cells #[vi ki kd, vS ⟨#[]⟩, vL none 0 0, vi ki r.2.2] 30)) w.heap.size [vi ki 0, vS ⟨#[]⟩, vL none 0 0, vi ki 0] ∧ Bx (W3.alloc (.cells #[vi ki kd, vS ⟨#[]⟩, vL none 0 0, vi ki r.2.2] 30)) B [vi ki kd, vS ⟨#[]⟩, vL none 0 0, vi ki r.2.2] ∧ RS g b cap T (W3.alloc (.cells #[vi ki kd, vS ⟨#[]⟩, vL none 0 0, vi ki r.2.2] 30)) (q :: l0) (d + 1)) := ⟨(K1.out.trans hk3).alloc _, (hk3.bx H1.out (by omega)).alloc _, by rw [hB]; exact X3.out.first, hr3.below X3.out.1⟩
   have hBw : w.heap.size + 1 ≤ B := by omega
   have hBg : B ≠ g := by omega
   go_upto_region 15 with fail
   rw [← hB]
   refine gen_to (fun V => Kp g w V ∧ Bx V w.heap.size [vi ki 0, vS ⟨#[]⟩, vL none 0 0, vi ki 0] ∧ Bx V B [vi ki kd, vS ⟨#[]⟩, vL none 0 0, vi ki r.2.2] ∧ RS g b cap T V (q :: l0) (d + 1)) X4.out ?_
   clear X3 X4 hk3 hr3 K1 H1 S1 HIn hB
   intro W5 hW5
   have KK := hZz hW5
   clear hW5
   have HC := HB.out
   have hN1 : (q :: l0).length ≤ N - 1 := by simp only [zl] at hN ⊢; omega
   have hf1 : need (.lv lev) (mL (q :: l0)) ≤ f := by simp only [need, mL_len, zl] at hf ⊢; omega
   have HCC : Hid (∀ V : World, RS g b cap T V (q :: l0) (d + 1) → Calls Tryd.prog 18 #[.pointer (some ⟨g, 0, none⟩), vi ki (lev : Int)] V fun e w' => Kp g V w' ∧ ROut g b V.heap.size cap T (fun c => V.heap.size ≤ c) w' (d + 1) e (par f (.lv lev) (d + 1) (mL (q :: l0)))) := fun V hV => HC V _ (d + 1) f hV HE1.out (by omega) hN1 hf1
   clear HC
   cases hr : par f (.lv lev) (d + 1) (mL (q :: l0)) with
   | no ea er =>
    rw [hr] at HCC
    have HR9 : Hid (R = .no ea er) := by have := HR8.out; rw [hr] at this; exact this.symm
    clear hr HR8
    go_cut [] from 51 to 58 (fun V => er ≠ 0 ∧ ∃ sq' sn' sc', Kp g w V ∧ Bx V w.heap.size [vi ki 0, vS ⟨#[]⟩, vL none 0 0, vi ki 0] ∧ Bx V B [vi ki kd, vS ⟨#[]⟩, vL sq' sn' sc', vi ki r.2.2] ∧ RF g b (B + 1) V ea er)
    case first =>
     refine wp_region_held_drew (S := fun _ => True) (by kernel_rfl) trivial (fun hHeld => ?_)
     refine gen_anyR (fun V => Kp g w V ∧ Bx V w.heap.size [vi ki 0, vS ⟨#[]⟩, vL none 0 0, vi ki 0] ∧ Bx V B [vi ki kd, vS ⟨#[]⟩, vL none 0 0, vi ki r.2.2] ∧ RS g b cap T V (q :: l0) (d + 1)) ⟨KK.out.1.drew, KK.out.2.1, KK.out.2.2.1, KK.out.2.2.2.drew⟩ ?_
     clear hHeld KK
     intro W6 hW6
     have KK := hZz hW6
     clear hW6
     have hHeld : True := trivial
     refine tks 0 ?_
     simp only [za, zb, zc, zd]
     refine tks 2 ?_
     simp only [za, zb, zc, zd]
     refine tks 3 ?_
     simp only [za, zb, zc, zd]
     refine rd2 1 4 (fun K hK => ?_) (fun K hK => ?_)
     ·
      have q0 := KK.out.2.2.1.c 2 rfl
      have q9 := KK.out.2.2.1.1
      go_simp
      refine hK.out _ _ trivial (fun hHeld => ?_)
      clear hK K q0 q9
      refine rd 4 (fun K hK => ?_)
      go_simp
      refine (HCC.out _ KK.out.2.2.2).mono ?_
      have hq9 := KK.out.2.2.1.1
      rintro e v2 ⟨hk2, her, hf, k9, u9, sq9, sn9, sc9, a9, rfl⟩
      refine hK.out _ _ trivial (fun hHeld => ?_)
      have HER := hZz her
      replace KK : Hid (Kp g w v2 ∧ Bx v2 w.heap.size [vi ki 0, vS ⟨#[]⟩, vL none 0 0, vi ki 0] ∧ Bx v2 B [vi ki kd, vS ⟨#[]⟩, vL none 0 0, vi ki r.2.2] ∧ RF g b (B + 1) v2 ea er) := ⟨KK.out.1.trans hk2, hk2.bx KK.out.2.1 (by omega), hk2.bx KK.out.2.2.1 hBg, hf.mono (by omega)⟩
      clear hK K hk2 hf her hq9
      refine rd 5 (fun K hK => ?_)
      have hwB := KK.out.2.2.1.1
      go_simp
      refine hK.out _ _ trivial (fun hHeld => ?_)
      obtain ⟨BR, hBR⟩ : ∃ BR, BR = v2.heap.size := ⟨_, rfl⟩
      have BN := bsm1 v2 [vi ki k9, vS u9, vL sq9 sn9 sc9, vi ki a9] 30
      refine gen_anyR (fun V' => (Kp g w V' ∧ Bx V' w.heap.size [vi ki 0, vS ⟨#[]⟩, vL none 0 0, vi ki 0] ∧ Bx V' B [vi ki kd, vS ⟨#[]⟩, vL none 0 0, vi ki r.2.2] ∧ RF g b (B + 1) V' ea er) ∧ Bx V' BR [vi ki k9, vS u9, vL sq9 sn9 sc9, vi ki a9]) ⟨⟨KK.out.1.alloc _, KK.out.2.1.alloc _, KK.out.2.2.1.alloc _, KK.out.2.2.2.below BN.out.1⟩, by rw [hBR]; exact BN.out.first⟩ ?_
      have hBR1 : B < BR := by omega
      rw [← hBR]
      clear hHeld hK K BN hBR hwB KK
      rintro v3 ⟨kk1, kk2⟩
      have KK := hZz kk1
      have HRW := hZz kk2
      clear kk1 kk2
      have hHeld : True := trivial
      refine rd 6 (fun K hK => ?_)
      refine (if_pos (by kernel_rfl)).mpr (wp_row1 _ _ rfl rfl rfl HRW.out ?_)
      intro v' w4 hown' hgrow
      obtain ⟨sq', sn', sc', hv'⟩ := own_form hown'
      subst hv'
      have hgb : Below _ _ w4 := grown_below hgrow
      have HO := hZz hown'
      have hBV : B < v3.heap.size := KK.out.2.2.1.1
      have K4 : Hid (Kp g w w4 ∧ Bx w4 w.heap.size [vi ki 0, vS ⟨#[]⟩, vL none 0 0, vi ki 0] ∧ Bx w4 B [vi ki kd, vS ⟨#[]⟩, vL none 0 0, vi ki r.2.2] ∧ RF g b (B + 1) w4 ea er) := ⟨KK.out.1.trans (Kp.of hgb), KK.out.2.1.below hgb, KK.out.2.2.1.below hgb, KK.out.2.2.2.below hgb⟩
      refine hK.out _ _ trivial (fun hHeld => ?_)
      clear hK K hown' hgrow hgb KK HRW
      refine tks 7 ?_
      simp only [za, zb, zc, zd]
      refine rd 8 (fun K hK => ?_)
      have hoff : ∀ c, c < w4.heap.size → c ≠ B → (w4.setCell ⟨B, 2, none⟩ (vL sq' sn' sc')).heap[c]? = w4.heap[c]? := fun c _ hc => Below.heap_setCell _ _ _ _ hc
      have K7 : Hid (Kp g w (w4.setCell ⟨B, 2, none⟩ (vL sq' sn' sc')) ∧ Bx (w4.setCell ⟨B, 2, none⟩ (vL sq' sn' sc')) w.heap.size [vi ki 0, vS ⟨#[]⟩, vL none 0 0, vi ki 0] ∧ Bx (w4.setCell ⟨B, 2, none⟩ (vL sq' sn' sc')) B [vi ki kd, vS ⟨#[]⟩, vL sq' sn' sc', vi ki r.2.2] ∧ RF g b (B + 1) (w4.setCell ⟨B, 2, none⟩ (vL sq' sn' sc')) ea er) := ⟨K4.out.1.set (p := ⟨B, 2, none⟩) (.inr (by show _ ≤ B; omega)) _, K4.out.2.1.setOther (by omega) [_] 2, K4.out.2.2.1.set1 2 _ (by simp), K4.out.2.2.2.off (r := B) hoff (by simp) (by omega) (by omega) (by omega)⟩
      have z2 := K4.out.2.2.1.f 2 rfl
      have c2 := K4.out.2.2.1.c 2 rfl
      have hB4 := K4.out.2.2.1.1
      go_simp
      refine hK.out _ _ trivial (fun hHeld => ?_)
      refine gen_anyR (fun V => Kp g w V ∧ Bx V w.heap.size [vi ki 0, vS ⟨#[]⟩, vL none 0 0, vi ki 0] ∧ Bx V B [vi ki kd, vS ⟨#[]⟩, vL sq' sn' sc', vi ki r.2.2] ∧ RF g b (B + 1) V ea er) K7.out ?_
      clear hK K z2 c2 hB4 K7 K4 HO hoff hHeld
      intro v5 KK
      have hHeld : True := trivial
      refine dn ?_
      go_wp2_with fail
      go_meet
      case rel => exact ⟨HER.out, sq', sn', sc', KK⟩
     ·
      go_simp
      refine (HCC.out _ KK.out.2.2.2).mono ?_
      have hq9 := KK.out.2.2.1.1
      rintro e v6 ⟨hk6, her, hf, k9, u9, sq9, sn9, sc9, a9, rfl⟩
      refine hK.out _ _ trivial (fun hHeld => ?_)
      have HER := hZz her
      replace KK : Hid (Kp g w v6 ∧ Bx v6 w.heap.size [vi ki 0, vS ⟨#[]⟩, vL none 0 0, vi ki 0] ∧ Bx v6 B [vi ki kd, vS ⟨#[]⟩, vL none 0 0, vi ki r.2.2] ∧ RF g b (B + 1) v6 ea er) := ⟨KK.out.1.trans hk6, hk6.bx KK.out.2.1 (by omega), hk6.bx KK.out.2.2.1 hBg, hf.mono (by omega)⟩
      clear hK K hk6 hf her hq9
      refine rd2 1 5 (fun K hK => ?_) (fun K hK => ?_)
      ·
       have q0 := KK.out.2.2.1.c 2 rfl
       have q9 := KK.out.2.2.1.1
       go_simp
       refine hK.out _ _ trivial (fun hHeld => ?_)
       clear hK K q0 q9
       refine rd 5 (fun K hK => ?_)
       have hwB := KK.out.2.2.1.1
       go_simp
       refine hK.out _ _ trivial (fun hHeld => ?_)
       obtain ⟨BR, hBR⟩ : ∃ BR, BR = v6.heap.size := ⟨_, rfl⟩
       have BN := bsm1 v6 [vi ki k9, vS u9, vL sq9 sn9 sc9, vi ki a9] 30
       refine gen_anyR (fun V' => (Kp g w V' ∧ Bx V' w.heap.size [vi ki 0, vS ⟨#[]⟩, vL none 0 0, vi ki 0] ∧ Bx V' B [vi ki kd, vS ⟨#[]⟩, vL none 0 0, vi ki r.2.2] ∧ RF g b (B + 1) V' ea er) ∧ Bx V' BR [vi ki k9, vS u9, vL sq9 sn9 sc9, vi ki a9]) ⟨⟨KK.out.1.alloc _, KK.out.2.1.alloc _, KK.out.2.2.1.alloc _, KK.out.2.2.2.below BN.out.1⟩, by rw [hBR]; exact BN.out.first⟩ ?_
       have hBR1 : B < BR := by omega
       rw [← hBR]
       clear hHeld hK K BN hBR hwB KK
       rintro v8 ⟨kk1, kk2⟩
       have KK := hZz kk1
       have HRW := hZz kk2
       clear kk1 kk2
       have hHeld : True := trivial
       refine rd 6 (fun K hK => ?_)
       refine (if_pos (by kernel_rfl)).mpr (wp_row1 _ _ rfl rfl rfl HRW.out ?_)
       intro v' w4 hown' hgrow
       obtain ⟨sq', sn', sc', hv'⟩ := own_form hown'
       subst hv'
       have hgb : Below _ _ w4 := grown_below hgrow
       have HO := hZz hown'
       have hBV : B < v8.heap.size := KK.out.2.2.1.1
       have K4 : Hid (Kp g w w4 ∧ Bx w4 w.heap.size [vi ki 0, vS ⟨#[]⟩, vL none 0 0, vi ki 0] ∧ Bx w4 B [vi ki kd, vS ⟨#[]⟩, vL none 0 0, vi ki r.2.2] ∧ RF g b (B + 1) w4 ea er) := ⟨KK.out.1.trans (Kp.of hgb), KK.out.2.1.below hgb, KK.out.2.2.1.below hgb, KK.out.2.2.2.below hgb⟩
       refine hK.out _ _ trivial (fun hHeld => ?_)
       clear hK K hown' hgrow hgb KK HRW
       refine tks 7 ?_
       simp only [za, zb, zc, zd]
       refine rd 8 (fun K hK => ?_)
       have hoff : ∀ c, c < w4.heap.size → c ≠ B → (w4.setCell ⟨B, 2, none⟩ (vL sq' sn' sc')).heap[c]? = w4.heap[c]? := fun c _ hc => Below.heap_setCell _ _ _ _ hc
       have K7 : Hid (Kp g w (w4.setCell ⟨B, 2, none⟩ (vL sq' sn' sc')) ∧ Bx (w4.setCell ⟨B, 2, none⟩ (vL sq' sn' sc')) w.heap.size [vi ki 0, vS ⟨#[]⟩, vL none 0 0, vi ki 0] ∧ Bx (w4.setCell ⟨B, 2, none⟩ (vL sq' sn' sc')) B [vi ki kd, vS ⟨#[]⟩, vL sq' sn' sc', vi ki r.2.2] ∧ RF g b (B + 1) (w4.setCell ⟨B, 2, none⟩ (vL sq' sn' sc')) ea er) := ⟨K4.out.1.set (p := ⟨B, 2, none⟩) (.inr (by show _ ≤ B; omega)) _, K4.out.2.1.setOther (by omega) [_] 2, K4.out.2.2.1.set1 2 _ (by simp), K4.out.2.2.2.off (r := B) hoff (by simp) (by omega) (by omega) (by omega)⟩
       have z2 := K4.out.2.2.1.f 2 rfl
       have c2 := K4.out.2.2.1.c 2 rfl
       have hB4 := K4.out.2.2.1.1
       go_simp
       refine hK.out _ _ trivial (fun hHeld => ?_)
       refine gen_anyR (fun V => Kp g w V ∧ Bx V w.heap.size [vi ki 0, vS ⟨#[]⟩, vL none 0 0, vi ki 0] ∧ Bx V B [vi ki kd, vS ⟨#[]⟩, vL sq' sn' sc', vi ki r.2.2] ∧ RF g b (B + 1) V ea er) K7.out ?_
       clear hK K z2 c2 hB4 K7 K4 HO hoff hHeld
       intro v10 KK
       have hHeld : True := trivial
       refine dn ?_
       go_wp2_with fail
       go_meet
       case rel => exact ⟨HER.out, sq', sn', sc', KK⟩
      ·
       have hwB := KK.out.2.2.1.1
       go_simp
       refine hK.out _ _ trivial (fun hHeld => ?_)
       obtain ⟨BR, hBR⟩ : ∃ BR, BR = v6.heap.size := ⟨_, rfl⟩
       have BN := bsm1 v6 [vi ki k9, vS u9, vL sq9 sn9 sc9, vi ki a9] 30
       refine gen_anyR (fun V' => (Kp g w V' ∧ Bx V' w.heap.size [vi ki 0, vS ⟨#[]⟩, vL none 0 0, vi ki 0] ∧ Bx V' B [vi ki kd, vS ⟨#[]⟩, vL none 0 0, vi ki r.2.2] ∧ RF g b (B + 1) V' ea er) ∧ Bx V' BR [vi ki k9, vS u9, vL sq9 sn9 sc9, vi ki a9]) ⟨⟨KK.out.1.alloc _, KK.out.2.1.alloc _, KK.out.2.2.1.alloc _, KK.out.2.2.2.below BN.out.1⟩, by rw [hBR]; exact BN.out.first⟩ ?_
       have hBR1 : B < BR := by omega
       rw [← hBR]
       clear hHeld hK K BN hBR hwB KK
       rintro v11 ⟨kk1, kk2⟩
       have KK := hZz kk1
       have HRW := hZz kk2
       clear kk1 kk2
       have hHeld : True := trivial
       refine rd 1 (fun K hK => ?_)
       have q0 := KK.out.2.2.1.c 2 rfl
       have q9 := KK.out.2.2.1.1
       go_simp
       refine hK.out _ _ trivial (fun hHeld => ?_)
       clear hK K q0 q9
       refine rd 6 (fun K hK => ?_)
       refine (if_pos (by kernel_rfl)).mpr (wp_row1 _ _ rfl rfl rfl HRW.out ?_)
       intro v' w4 hown' hgrow
       obtain ⟨sq', sn', sc', hv'⟩ := own_form hown'
       subst hv'
       have hgb : Below _ _ w4 := grown_below hgrow
       have HO := hZz hown'
       have hBV : B < v11.heap.size := KK.out.2.2.1.1
       have K4 : Hid (Kp g w w4 ∧ Bx w4 w.heap.size [vi ki 0, vS ⟨#[]⟩, vL none 0 0, vi ki 0] ∧ Bx w4 B [vi ki kd, vS ⟨#[]⟩, vL none 0 0, vi ki r.2.2] ∧ RF g b (B + 1) w4 ea er) := ⟨KK.out.1.trans (Kp.of hgb), KK.out.2.1.below hgb, KK.out.2.2.1.below hgb, KK.out.2.2.2.below hgb⟩
       refine hK.out _ _ trivial (fun hHeld => ?_)
       clear hK K hown' hgrow hgb KK HRW
       refine tks 7 ?_
       simp only [za, zb, zc, zd]
       refine rd 8 (fun K hK => ?_)
       have hoff : ∀ c, c < w4.heap.size → c ≠ B → (w4.setCell ⟨B, 2, none⟩ (vL sq' sn' sc')).heap[c]? = w4.heap[c]? := fun c _ hc => Below.heap_setCell _ _ _ _ hc
       have K7 : Hid (Kp g w (w4.setCell ⟨B, 2, none⟩ (vL sq' sn' sc')) ∧ Bx (w4.setCell ⟨B, 2, none⟩ (vL sq' sn' sc')) w.heap.size [vi ki 0, vS ⟨#[]⟩, vL none 0 0, vi ki 0] ∧ Bx (w4.setCell ⟨B, 2, none⟩ (vL sq' sn' sc')) B [vi ki kd, vS ⟨#[]⟩, vL sq' sn' sc', vi ki r.2.2] ∧ RF g b (B + 1) (w4.setCell ⟨B, 2, none⟩ (vL sq' sn' sc')) ea er) := ⟨K4.out.1.set (p := ⟨B, 2, none⟩) (.inr (by show _ ≤ B; omega)) _, K4.out.2.1.setOther (by omega) [_] 2, K4.out.2.2.1.set1 2 _ (by simp), K4.out.2.2.2.off (r := B) hoff (by simp) (by omega) (by omega) (by omega)⟩
       have z2 := K4.out.2.2.1.f 2 rfl
       have c2 := K4.out.2.2.1.c 2 rfl
       have hB4 := K4.out.2.2.1.1
       go_simp
       refine hK.out _ _ trivial (fun hHeld => ?_)
       refine gen_anyR (fun V => Kp g w V ∧ Bx V w.heap.size [vi ki 0, vS ⟨#[]⟩, vL none 0 0, vi ki 0] ∧ Bx V B [vi ki kd, vS ⟨#[]⟩, vL sq' sn' sc', vi ki r.2.2] ∧ RF g b (B + 1) V ea er) K7.out ?_
       clear hK K z2 c2 hB4 K7 K4 HO hoff hHeld
       intro v14 KK
       have hHeld : True := trivial
       refine dn ?_
       go_wp2_with fail
       go_meet
       case rel => exact ⟨HER.out, sq', sn', sc', KK⟩
    case rest =>
     obtain ⟨her, sq', sn', sc', kk⟩ := hcut
     have KK := hZz kk
     have HER := hZz her
     clear kk her HCC
     obtain ⟨c9, o9, n9, m9, D9, i9, z9, t9, hc9, hb9, -⟩ := KK.out.2.2.2
     have cg1 := hb9.c 1 rfl
     have fg1 := hb9.f 1 rfl
     have hgl := hb9.1
     clear hb9 hc9
     go_upto_region 17 with fail
     refine gen_to (fun V => Kp g w V ∧ Bx V w.heap.size [vi ki 0, vS ⟨#[]⟩, vL none 0 0, vi ki 0] ∧ RF g b (B + 1) V ea er ∧ Bx V B [vi ki kd, vS ⟨#[]⟩, vL sq' sn' sc', vi ki r.2.2]) (rdeep_bad hg KK.out.1 KK.out.2.1 (by omega) KK.out.2.2.2 KK.out.2.2.1 hBg) ?_
     rintro W8 ⟨k8, h8, f8, t8⟩
     have HK5 := hZz k8
     have HH5 := hZz h8
     have HF5 := hZz f8
     obtain ⟨l0', l1', l2', l3'⟩ := t8.d4
     have hl' := t8.1
     clear k8 h8 f8 t8 cg1 fg1 hgl KK
     obtain ⟨y0', y1', y2', y3', HFK, HFO, HFS, rr0, rr1, rr2, rr3, rf0, rf1, rf2, rf3, hrw'⟩ := fin9 (vi ki kd) (vS ⟨#[]⟩) (vL sq' sn' sc') (vi ki r.2.2) HK5.out (Nat.le_refl _) (HH5.out)
     go_wp2
     refine bodyPost_ret (v := .agg #[vi ki kd, vS ⟨#[]⟩, vL sq' sn' sc', vi ki r.2.2]) (by simp [results, Tryd.results18, go_sem, y0', y1', y2', y3']) rfl ⟨HFK.out, by rw [HR9.out]; exact ⟨HER.out, (HF5.out.off HFO.out HFS.out (by omega) (by omega) (by omega)).mono (by omega), _, _, _, _, _, _, rfl⟩⟩
   | ok n l1 =>
    rw [hr] at HCC
    have HR9 : Hid (R = .ok (.mk kd ByteArray.empty [n] r.2.2) l1) := by have := HR8.out; rw [hr] at this; exact this.symm
    clear hr HR8
    go_cut [] from 51 to 58 (fun V => ∃ L1 R1 cp1, l1 = mL L1 ∧ Kp g w V ∧ Bx V w.heap.size [vi ki 0, vS ⟨#[]⟩, vL none 0 0, vi ki 0] ∧ Bx V B [vi ki kd, vS ⟨#[]⟩, vL (some ⟨R1, 0, none⟩) 1 cp1, vi ki r.2.2] ∧ RS g b cap T V L1 (d + 1) ∧ EndL (mL L1) ∧ NdAt (fun c => B < c) V (.mk kd ByteArray.empty [n] r.2.2) [vi ki kd, vS ⟨#[]⟩, vL (some ⟨R1, 0, none⟩) 1 cp1, vi ki r.2.2])
    case first =>
     refine wp_region_held_drew (S := fun _ => True) (by kernel_rfl) trivial (fun hHeld => ?_)
     refine gen_anyR (fun V => Kp g w V ∧ Bx V w.heap.size [vi ki 0, vS ⟨#[]⟩, vL none 0 0, vi ki 0] ∧ Bx V B [vi ki kd, vS ⟨#[]⟩, vL none 0 0, vi ki r.2.2] ∧ RS g b cap T V (q :: l0) (d + 1)) ⟨KK.out.1.drew, KK.out.2.1, KK.out.2.2.1, KK.out.2.2.2.drew⟩ ?_
     clear hHeld KK
     intro W6 hW6
     have KK := hZz hW6
     clear hW6
     have hHeld : True := trivial
     refine tks 0 ?_
     simp only [za, zb, zc, zd]
     refine tks 2 ?_
     simp only [za, zb, zc, zd]
     refine tks 3 ?_
     simp only [za, zb, zc, zd]
     refine rd2 1 4 (fun K hK => ?_) (fun K hK => ?_)
     ·
      have q0 := KK.out.2.2.1.c 2 rfl
      have q9 := KK.out.2.2.1.1
      go_simp
      refine hK.out _ _ trivial (fun hHeld => ?_)
      clear hK K q0 q9
      refine rd 4 (fun K hK => ?_)
      go_simp
      refine (HCC.out _ KK.out.2.2.2).mono ?_
      have hq9 := KK.out.2.2.1.1
      rintro e v2 ⟨hk2, L1, hl2, hrs, hend, k9, u9, sq9, sn9, sc9, a9, rfl, hnd⟩
      refine hK.out _ _ trivial (fun hHeld => ?_)
      subst hl2
      replace KK : Hid (Kp g w v2 ∧ Bx v2 w.heap.size [vi ki 0, vS ⟨#[]⟩, vL none 0 0, vi ki 0] ∧ Bx v2 B [vi ki kd, vS ⟨#[]⟩, vL none 0 0, vi ki r.2.2] ∧ RS g b cap T v2 L1 (d + 1) ∧ EndL (mL L1) ∧ NdAt (fun c => B < c) v2 n [vi ki k9, vS u9, vL sq9 sn9 sc9, vi ki a9]) := ⟨KK.out.1.trans hk2, hk2.bx KK.out.2.1 (by omega), hk2.bx KK.out.2.2.1 hBg, hrs, hend, NdAt.keep (Nat.le_refl _) (fun c hc _ => ⟨by omega, rfl⟩) _ _ hnd⟩
      clear hK K hk2 hrs hend hnd hq9
      refine rd 5 (fun K hK => ?_)
      have hwB := KK.out.2.2.1.1
      go_simp
      refine hK.out _ _ trivial (fun hHeld => ?_)
      obtain ⟨BR, hBR⟩ : ∃ BR, BR = v2.heap.size := ⟨_, rfl⟩
      have BN := bsm1 v2 [vi ki k9, vS u9, vL sq9 sn9 sc9, vi ki a9] 30
      refine gen_anyR (fun V' => (Kp g w V' ∧ Bx V' w.heap.size [vi ki 0, vS ⟨#[]⟩, vL none 0 0, vi ki 0] ∧ Bx V' B [vi ki kd, vS ⟨#[]⟩, vL none 0 0, vi ki r.2.2] ∧ RS g b cap T V' L1 (d + 1) ∧ EndL (mL L1) ∧ NdAt (fun c => B < c) V' n [vi ki k9, vS u9, vL sq9 sn9 sc9, vi ki a9]) ∧ Bx V' BR [vi ki k9, vS u9, vL sq9 sn9 sc9, vi ki a9]) ⟨⟨KK.out.1.alloc _, KK.out.2.1.alloc _, KK.out.2.2.1.alloc _, KK.out.2.2.2.1.below BN.out.1, KK.out.2.2.2.2.1, KK.out.2.2.2.2.2.below BN.out.1⟩, by rw [hBR]; exact BN.out.first⟩ ?_
      have hBR1 : B < BR := by omega
      rw [← hBR]
      clear hHeld hK K BN hBR hwB KK
      rintro v3 ⟨kk1, kk2⟩
      have KK := hZz kk1
      have HRW := hZz kk2
      clear kk1 kk2
      have hHeld : True := trivial
      refine rd 6 (fun K hK => ?_)
      refine (if_pos (by kernel_rfl)).mpr (wp_row1 _ _ rfl rfl rfl HRW.out ?_)
      intro v' w4 hown' hgrow
      obtain ⟨sq', sn', sc', hv'⟩ := own_form hown'
      subst hv'
      have hgb : Below _ _ w4 := grown_below hgrow
      have HO := hZz hown'
      have hBV : B < v3.heap.size := KK.out.2.2.1.1
      have K4 : Hid (Kp g w w4 ∧ Bx w4 w.heap.size [vi ki 0, vS ⟨#[]⟩, vL none 0 0, vi ki 0] ∧ Bx w4 B [vi ki kd, vS ⟨#[]⟩, vL none 0 0, vi ki r.2.2] ∧ RS g b cap T w4 L1 (d + 1) ∧ EndL (mL L1) ∧ NdAt (fun c => B < c) w4 n [vi ki k9, vS u9, vL sq9 sn9 sc9, vi ki a9]) := ⟨KK.out.1.trans (Kp.of hgb), KK.out.2.1.below hgb, KK.out.2.2.1.below hgb, KK.out.2.2.2.1.below hgb, KK.out.2.2.2.2.1, KK.out.2.2.2.2.2.below hgb⟩
      refine hK.out _ _ trivial (fun hHeld => ?_)
      clear hK K hown' hgrow hgb KK HRW
      refine tks 7 ?_
      simp only [za, zb, zc, zd]
      refine rd 8 (fun K hK => ?_)
      obtain ⟨R1, cp1, hv1, hc1, hc2, hR1, hR2, hRw⟩ := row_one HO.out K4.out.2.2.2.2.2
      obtain ⟨rfl, rfl, rfl⟩ : sq' = some ⟨R1, 0, none⟩ ∧ sn' = 1 ∧ sc' = cp1 := by cases hv1; exact ⟨rfl, rfl, rfl⟩
      have hn7 : NdAt (fun c => B < c) w4 (.mk kd ByteArray.empty [n] r.2.2) [vi ki kd, vS ⟨#[]⟩, vL (some ⟨R1, 0, none⟩) 1 sc', vi ki r.2.2] := NdAt.row (ks := [n]) (by simp) hc1 hc2 (by omega) hR2 hRw
      have hoff : ∀ c, c < w4.heap.size → c ≠ B → (w4.setCell ⟨B, 2, none⟩ (vL (some ⟨R1, 0, none⟩) 1 sc')).heap[c]? = w4.heap[c]? := fun c _ hc => Below.heap_setCell _ _ _ _ hc
      have K7 : Hid (Kp g w (w4.setCell ⟨B, 2, none⟩ (vL (some ⟨R1, 0, none⟩) 1 sc')) ∧ Bx (w4.setCell ⟨B, 2, none⟩ (vL (some ⟨R1, 0, none⟩) 1 sc')) w.heap.size [vi ki 0, vS ⟨#[]⟩, vL none 0 0, vi ki 0] ∧ Bx (w4.setCell ⟨B, 2, none⟩ (vL (some ⟨R1, 0, none⟩) 1 sc')) B [vi ki kd, vS ⟨#[]⟩, vL (some ⟨R1, 0, none⟩) 1 sc', vi ki r.2.2] ∧ RS g b cap T (w4.setCell ⟨B, 2, none⟩ (vL (some ⟨R1, 0, none⟩) 1 sc')) L1 (d + 1) ∧ EndL (mL L1) ∧ NdAt (fun c => B < c) (w4.setCell ⟨B, 2, none⟩ (vL (some ⟨R1, 0, none⟩) 1 sc')) (.mk kd ByteArray.empty [n] r.2.2) [vi ki kd, vS ⟨#[]⟩, vL (some ⟨R1, 0, none⟩) 1 sc', vi ki r.2.2]) := ⟨K4.out.1.set (p := ⟨B, 2, none⟩) (.inr (by show _ ≤ B; omega)) _, K4.out.2.1.setOther (by omega) [_] 2, K4.out.2.2.1.set1 2 _ (by simp), K4.out.2.2.2.1.off (r := B) hoff (by simp) (by omega) (by omega), K4.out.2.2.2.2.1, hn7.off (r := B) hoff (by simp) (fun c hc => ⟨hc, by omega⟩)⟩
      have z2 := K4.out.2.2.1.f 2 rfl
      have c2 := K4.out.2.2.1.c 2 rfl
      have hB4 := K4.out.2.2.1.1
      go_simp
      refine hK.out _ _ trivial (fun hHeld => ?_)
      refine gen_anyR (fun V => Kp g w V ∧ Bx V w.heap.size [vi ki 0, vS ⟨#[]⟩, vL none 0 0, vi ki 0] ∧ Bx V B [vi ki kd, vS ⟨#[]⟩, vL (some ⟨R1, 0, none⟩) 1 sc', vi ki r.2.2] ∧ RS g b cap T V L1 (d + 1) ∧ EndL (mL L1) ∧ NdAt (fun c => B < c) V (.mk kd ByteArray.empty [n] r.2.2) [vi ki kd, vS ⟨#[]⟩, vL (some ⟨R1, 0, none⟩) 1 sc', vi ki r.2.2]) K7.out ?_
      clear hK K z2 c2 hB4 K7 K4 HO hoff hHeld hn7 hRw hv1
      intro v5 KK
      have hHeld : True := trivial
      refine dn ?_
      go_wp2_with fail
      go_meet
      case rel => exact ⟨L1, R1, sc', rfl, KK⟩
     ·
      go_simp
      refine (HCC.out _ KK.out.2.2.2).mono ?_
      have hq9 := KK.out.2.2.1.1
      rintro e v6 ⟨hk6, L1, hl6, hrs, hend, k9, u9, sq9, sn9, sc9, a9, rfl, hnd⟩
      refine hK.out _ _ trivial (fun hHeld => ?_)
      subst hl6
      replace KK : Hid (Kp g w v6 ∧ Bx v6 w.heap.size [vi ki 0, vS ⟨#[]⟩, vL none 0 0, vi ki 0] ∧ Bx v6 B [vi ki kd, vS ⟨#[]⟩, vL none 0 0, vi ki r.2.2] ∧ RS g b cap T v6 L1 (d + 1) ∧ EndL (mL L1) ∧ NdAt (fun c => B < c) v6 n [vi ki k9, vS u9, vL sq9 sn9 sc9, vi ki a9]) := ⟨KK.out.1.trans hk6, hk6.bx KK.out.2.1 (by omega), hk6.bx KK.out.2.2.1 hBg, hrs, hend, NdAt.keep (Nat.le_refl _) (fun c hc _ => ⟨by omega, rfl⟩) _ _ hnd⟩
      clear hK K hk6 hrs hend hnd hq9
      refine rd2 1 5 (fun K hK => ?_) (fun K hK => ?_)
      ·
       have q0 := KK.out.2.2.1.c 2 rfl
       have q9 := KK.out.2.2.1.1
       go_simp
       refine hK.out _ _ trivial (fun hHeld => ?_)
       clear hK K q0 q9
       refine rd 5 (fun K hK => ?_)
       have hwB := KK.out.2.2.1.1
       go_simp
       refine hK.out _ _ trivial (fun hHeld => ?_)
       obtain ⟨BR, hBR⟩ : ∃ BR, BR = v6.heap.size := ⟨_, rfl⟩
       have BN := bsm1 v6 [vi ki k9, vS u9, vL sq9 sn9 sc9, vi ki a9] 30
       refine gen_anyR (fun V' => (Kp g w V' ∧ Bx V' w.heap.size [vi ki 0, vS ⟨#[]⟩, vL none 0 0, vi ki 0] ∧ Bx V' B [vi ki kd, vS ⟨#[]⟩, vL none 0 0, vi ki r.2.2] ∧ RS g b cap T V' L1 (d + 1) ∧ EndL (mL L1) ∧ NdAt (fun c => B < c) V' n [vi ki k9, vS u9, vL sq9 sn9 sc9, vi ki a9]) ∧ Bx V' BR [vi ki k9, vS u9, vL sq9 sn9 sc9, vi ki a9]) ⟨⟨KK.out.1.alloc _, KK.out.2.1.alloc _, KK.out.2.2.1.alloc _, KK.out.2.2.2.1.below BN.out.1, KK.out.2.2.2.2.1, KK.out.2.2.2.2.2.below BN.out.1⟩, by rw [hBR]; exact BN.out.first⟩ ?_
       have hBR1 : B < BR := by omega
       rw [← hBR]
       clear hHeld hK K BN hBR hwB KK
       rintro v8 ⟨kk1, kk2⟩
       have KK := hZz kk1
       have HRW := hZz kk2
       clear kk1 kk2
       have hHeld : True := trivial
       refine rd 6 (fun K hK => ?_)
       refine (if_pos (by kernel_rfl)).mpr (wp_row1 _ _ rfl rfl rfl HRW.out ?_)
       intro v' w4 hown' hgrow
       obtain ⟨sq', sn', sc', hv'⟩ := own_form hown'
       subst hv'
       have hgb : Below _ _ w4 := grown_below hgrow
       have HO := hZz hown'
       have hBV : B < v8.heap.size := KK.out.2.2.1.1
       have K4 : Hid (Kp g w w4 ∧ Bx w4 w.heap.size [vi ki 0, vS ⟨#[]⟩, vL none 0 0, vi ki 0] ∧ Bx w4 B [vi ki kd, vS ⟨#[]⟩, vL none 0 0, vi ki r.2.2] ∧ RS g b cap T w4 L1 (d + 1) ∧ EndL (mL L1) ∧ NdAt (fun c => B < c) w4 n [vi ki k9, vS u9, vL sq9 sn9 sc9, vi ki a9]) := ⟨KK.out.1.trans (Kp.of hgb), KK.out.2.1.below hgb, KK.out.2.2.1.below hgb, KK.out.2.2.2.1.below hgb, KK.out.2.2.2.2.1, KK.out.2.2.2.2.2.below hgb⟩
       refine hK.out _ _ trivial (fun hHeld => ?_)
       clear hK K hown' hgrow hgb KK HRW
       refine tks 7 ?_
       simp only [za, zb, zc, zd]
       refine rd 8 (fun K hK => ?_)
       obtain ⟨R1, cp1, hv1, hc1, hc2, hR1, hR2, hRw⟩ := row_one HO.out K4.out.2.2.2.2.2
       obtain ⟨rfl, rfl, rfl⟩ : sq' = some ⟨R1, 0, none⟩ ∧ sn' = 1 ∧ sc' = cp1 := by cases hv1; exact ⟨rfl, rfl, rfl⟩
       have hn7 : NdAt (fun c => B < c) w4 (.mk kd ByteArray.empty [n] r.2.2) [vi ki kd, vS ⟨#[]⟩, vL (some ⟨R1, 0, none⟩) 1 sc', vi ki r.2.2] := NdAt.row (ks := [n]) (by simp) hc1 hc2 (by omega) hR2 hRw
       have hoff : ∀ c, c < w4.heap.size → c ≠ B → (w4.setCell ⟨B, 2, none⟩ (vL (some ⟨R1, 0, none⟩) 1 sc')).heap[c]? = w4.heap[c]? := fun c _ hc => Below.heap_setCell _ _ _ _ hc
       have K7 : Hid (Kp g w (w4.setCell ⟨B, 2, none⟩ (vL (some ⟨R1, 0, none⟩) 1 sc')) ∧ Bx (w4.setCell ⟨B, 2, none⟩ (vL (some ⟨R1, 0, none⟩) 1 sc')) w.heap.size [vi ki 0, vS ⟨#[]⟩, vL none 0 0, vi ki 0] ∧ Bx (w4.setCell ⟨B, 2, none⟩ (vL (some ⟨R1, 0, none⟩) 1 sc')) B [vi ki kd, vS ⟨#[]⟩, vL (some ⟨R1, 0, none⟩) 1 sc', vi ki r.2.2] ∧ RS g b cap T (w4.setCell ⟨B, 2, none⟩ (vL (some ⟨R1, 0, none⟩) 1 sc')) L1 (d + 1) ∧ EndL (mL L1) ∧ NdAt (fun c => B < c) (w4.setCell ⟨B, 2, none⟩ (vL (some ⟨R1, 0, none⟩) 1 sc')) (.mk kd ByteArray.empty [n] r.2.2) [vi ki kd, vS ⟨#[]⟩, vL (some ⟨R1, 0, none⟩) 1 sc', vi ki r.2.2]) := ⟨K4.out.1.set (p := ⟨B, 2, none⟩) (.inr (by show _ ≤ B; omega)) _, K4.out.2.1.setOther (by omega) [_] 2, K4.out.2.2.1.set1 2 _ (by simp), K4.out.2.2.2.1.off (r := B) hoff (by simp) (by omega) (by omega), K4.out.2.2.2.2.1, hn7.off (r := B) hoff (by simp) (fun c hc => ⟨hc, by omega⟩)⟩
       have z2 := K4.out.2.2.1.f 2 rfl
       have c2 := K4.out.2.2.1.c 2 rfl
       have hB4 := K4.out.2.2.1.1
       go_simp
       refine hK.out _ _ trivial (fun hHeld => ?_)
       refine gen_anyR (fun V => Kp g w V ∧ Bx V w.heap.size [vi ki 0, vS ⟨#[]⟩, vL none 0 0, vi ki 0] ∧ Bx V B [vi ki kd, vS ⟨#[]⟩, vL (some ⟨R1, 0, none⟩) 1 sc', vi ki r.2.2] ∧ RS g b cap T V L1 (d + 1) ∧ EndL (mL L1) ∧ NdAt (fun c => B < c) V (.mk kd ByteArray.empty [n] r.2.2) [vi ki kd, vS ⟨#[]⟩, vL (some ⟨R1, 0, none⟩) 1 sc', vi ki r.2.2]) K7.out ?_
       clear hK K z2 c2 hB4 K7 K4 HO hoff hHeld hn7 hRw hv1
       intro v10 KK
       have hHeld : True := trivial
       refine dn ?_
       go_wp2_with fail
       go_meet
       case rel => exact ⟨L1, R1, sc', rfl, KK⟩
      ·
       have hwB := KK.out.2.2.1.1
       go_simp
       refine hK.out _ _ trivial (fun hHeld => ?_)
       obtain ⟨BR, hBR⟩ : ∃ BR, BR = v6.heap.size := ⟨_, rfl⟩
       have BN := bsm1 v6 [vi ki k9, vS u9, vL sq9 sn9 sc9, vi ki a9] 30
       refine gen_anyR (fun V' => (Kp g w V' ∧ Bx V' w.heap.size [vi ki 0, vS ⟨#[]⟩, vL none 0 0, vi ki 0] ∧ Bx V' B [vi ki kd, vS ⟨#[]⟩, vL none 0 0, vi ki r.2.2] ∧ RS g b cap T V' L1 (d + 1) ∧ EndL (mL L1) ∧ NdAt (fun c => B < c) V' n [vi ki k9, vS u9, vL sq9 sn9 sc9, vi ki a9]) ∧ Bx V' BR [vi ki k9, vS u9, vL sq9 sn9 sc9, vi ki a9]) ⟨⟨KK.out.1.alloc _, KK.out.2.1.alloc _, KK.out.2.2.1.alloc _, KK.out.2.2.2.1.below BN.out.1, KK.out.2.2.2.2.1, KK.out.2.2.2.2.2.below BN.out.1⟩, by rw [hBR]; exact BN.out.first⟩ ?_
       have hBR1 : B < BR := by omega
       rw [← hBR]
       clear hHeld hK K BN hBR hwB KK
       rintro v11 ⟨kk1, kk2⟩
       have KK := hZz kk1
       have HRW := hZz kk2
       clear kk1 kk2
       have hHeld : True := trivial
       refine rd 1 (fun K hK => ?_)
       have q0 := KK.out.2.2.1.c 2 rfl
       have q9 := KK.out.2.2.1.1
       go_simp
       refine hK.out _ _ trivial (fun hHeld => ?_)
       clear hK K q0 q9
       refine rd 6 (fun K hK => ?_)
       refine (if_pos (by kernel_rfl)).mpr (wp_row1 _ _ rfl rfl rfl HRW.out ?_)
       intro v' w4 hown' hgrow
       obtain ⟨sq', sn', sc', hv'⟩ := own_form hown'
       subst hv'
       have hgb : Below _ _ w4 := grown_below hgrow
       have HO := hZz hown'
       have hBV : B < v11.heap.size := KK.out.2.2.1.1
       have K4 : Hid (Kp g w w4 ∧ Bx w4 w.heap.size [vi ki 0, vS ⟨#[]⟩, vL none 0 0, vi ki 0] ∧ Bx w4 B [vi ki kd, vS ⟨#[]⟩, vL none 0 0, vi ki r.2.2] ∧ RS g b cap T w4 L1 (d + 1) ∧ EndL (mL L1) ∧ NdAt (fun c => B < c) w4 n [vi ki k9, vS u9, vL sq9 sn9 sc9, vi ki a9]) := ⟨KK.out.1.trans (Kp.of hgb), KK.out.2.1.below hgb, KK.out.2.2.1.below hgb, KK.out.2.2.2.1.below hgb, KK.out.2.2.2.2.1, KK.out.2.2.2.2.2.below hgb⟩
       refine hK.out _ _ trivial (fun hHeld => ?_)
       clear hK K hown' hgrow hgb KK HRW
       refine tks 7 ?_
       simp only [za, zb, zc, zd]
       refine rd 8 (fun K hK => ?_)
       obtain ⟨R1, cp1, hv1, hc1, hc2, hR1, hR2, hRw⟩ := row_one HO.out K4.out.2.2.2.2.2
       obtain ⟨rfl, rfl, rfl⟩ : sq' = some ⟨R1, 0, none⟩ ∧ sn' = 1 ∧ sc' = cp1 := by cases hv1; exact ⟨rfl, rfl, rfl⟩
       have hn7 : NdAt (fun c => B < c) w4 (.mk kd ByteArray.empty [n] r.2.2) [vi ki kd, vS ⟨#[]⟩, vL (some ⟨R1, 0, none⟩) 1 sc', vi ki r.2.2] := NdAt.row (ks := [n]) (by simp) hc1 hc2 (by omega) hR2 hRw
       have hoff : ∀ c, c < w4.heap.size → c ≠ B → (w4.setCell ⟨B, 2, none⟩ (vL (some ⟨R1, 0, none⟩) 1 sc')).heap[c]? = w4.heap[c]? := fun c _ hc => Below.heap_setCell _ _ _ _ hc
       have K7 : Hid (Kp g w (w4.setCell ⟨B, 2, none⟩ (vL (some ⟨R1, 0, none⟩) 1 sc')) ∧ Bx (w4.setCell ⟨B, 2, none⟩ (vL (some ⟨R1, 0, none⟩) 1 sc')) w.heap.size [vi ki 0, vS ⟨#[]⟩, vL none 0 0, vi ki 0] ∧ Bx (w4.setCell ⟨B, 2, none⟩ (vL (some ⟨R1, 0, none⟩) 1 sc')) B [vi ki kd, vS ⟨#[]⟩, vL (some ⟨R1, 0, none⟩) 1 sc', vi ki r.2.2] ∧ RS g b cap T (w4.setCell ⟨B, 2, none⟩ (vL (some ⟨R1, 0, none⟩) 1 sc')) L1 (d + 1) ∧ EndL (mL L1) ∧ NdAt (fun c => B < c) (w4.setCell ⟨B, 2, none⟩ (vL (some ⟨R1, 0, none⟩) 1 sc')) (.mk kd ByteArray.empty [n] r.2.2) [vi ki kd, vS ⟨#[]⟩, vL (some ⟨R1, 0, none⟩) 1 sc', vi ki r.2.2]) := ⟨K4.out.1.set (p := ⟨B, 2, none⟩) (.inr (by show _ ≤ B; omega)) _, K4.out.2.1.setOther (by omega) [_] 2, K4.out.2.2.1.set1 2 _ (by simp), K4.out.2.2.2.1.off (r := B) hoff (by simp) (by omega) (by omega), K4.out.2.2.2.2.1, hn7.off (r := B) hoff (by simp) (fun c hc => ⟨hc, by omega⟩)⟩
       have z2 := K4.out.2.2.1.f 2 rfl
       have c2 := K4.out.2.2.1.c 2 rfl
       have hB4 := K4.out.2.2.1.1
       go_simp
       refine hK.out _ _ trivial (fun hHeld => ?_)
       refine gen_anyR (fun V => Kp g w V ∧ Bx V w.heap.size [vi ki 0, vS ⟨#[]⟩, vL none 0 0, vi ki 0] ∧ Bx V B [vi ki kd, vS ⟨#[]⟩, vL (some ⟨R1, 0, none⟩) 1 sc', vi ki r.2.2] ∧ RS g b cap T V L1 (d + 1) ∧ EndL (mL L1) ∧ NdAt (fun c => B < c) V (.mk kd ByteArray.empty [n] r.2.2) [vi ki kd, vS ⟨#[]⟩, vL (some ⟨R1, 0, none⟩) 1 sc', vi ki r.2.2]) K7.out ?_
       clear hK K z2 c2 hB4 K7 K4 HO hoff hHeld hn7 hRw hv1
       intro v14 KK
       have hHeld : True := trivial
       refine dn ?_
       go_wp2_with fail
       go_meet
       case rel => exact ⟨L1, R1, sc', rfl, KK⟩
    case rest =>
     obtain ⟨L1, R1, cp1, rfl, kk⟩ := hcut
     have KK := hZz kk
     clear kk HCC
     obtain ⟨⟨pre4, pa4, he4, hb4⟩, -⟩ := KK.out.2.2.2.1
     have cg1 := hb4.c 1 rfl
     have fg1 := hb4.f 1 rfl
     have hgl := hb4.1
     clear hb4 he4
     have hdw : IntKind.i64.wrap ((d : Int) + 1 - 1) = (d : Int) := by rw [IntKind.wrap_i64]; omega
     have hdw2 : IntKind.i64.wrap (d : Int) = (d : Int) := by rw [IntKind.wrap_i64]; omega
     go_upto_region 17 with fail
     refine gen_to (fun V => Kp g w V ∧ Bx V w.heap.size [vi ki 0, vS ⟨#[]⟩, vL none 0 0, vi ki 0] ∧ RS g b cap T V L1 d ∧ Bx V B [vi ki kd, vS ⟨#[]⟩, vL (some ⟨R1, 0, none⟩) 1 cp1, vi ki r.2.2] ∧ NdAt (fun c => B < c) V (.mk kd ByteArray.empty [n] r.2.2) [vi ki kd, vS ⟨#[]⟩, vL (some ⟨R1, 0, none⟩) 1 cp1, vi ki r.2.2]) (rdeep_ok hg KK.out.1 KK.out.2.1 (by omega) KK.out.2.2.2.1 KK.out.2.2.1 hBg KK.out.2.2.2.2.2 (fun c hc => by omega)) ?_
     have HE5 := hZz KK.out.2.2.2.2.1
     rintro W8 ⟨k8, h8, s8, t8, n8⟩
     have HK5 := hZz k8
     have HH5 := hZz h8
     have HS5 := hZz s8
     have HN5 := hZz n8
     obtain ⟨l0', l1', l2', l3'⟩ := t8.d4
     have hl' := t8.1
     clear k8 h8 s8 t8 n8 cg1 fg1 hgl KK
     obtain ⟨y0', y1', y2', y3', HFK, HFO, HFS, rr0, rr1, rr2, rr3, rf0, rf1, rf2, rf3, hrw'⟩ := fin9 (vi ki kd) (vS ⟨#[]⟩) (vL (some ⟨R1, 0, none⟩) 1 cp1) (vi ki r.2.2) HK5.out (Nat.le_refl _) (HH5.out)
     go_wp2
     refine bodyPost_ret (v := .agg #[vi ki kd, vS ⟨#[]⟩, vL (some ⟨R1, 0, none⟩) 1 cp1, vi ki r.2.2]) (by simp [results, Tryd.results18, go_sem, y0', y1', y2', y3']) rfl ⟨HFK.out, by rw [HR9.out]; exact ⟨L1, rfl, HS5.out.off HFO.out HFS.out (by omega) (by omega), HE5.out, _, _, _, _, _, _, rfl, HN5.out.off HFO.out HFS.out (fun c hc => ⟨by omega, by omega⟩)⟩⟩
 ·rw [Bool.not_eq_true] at hi
  rw [hi] at hsg hR
  rw [if_neg (by simp)] at hR
  have HSi := rsign_any g b cap T l r HGr.out sb (fun z => by rw [hsg] at z; cases z) d W0 HP0.out
  rw [hsg, if_neg (by simp)] at HSi
  have HSg : Hid _ := HSi
  clear HSi hsg hi
  have HCC : Hid (∀ V : World, RS g b cap T V (r :: l) d → Calls Tryd.prog 18 #[.pointer (some ⟨g, 0, none⟩), vi ki ((lev : Int) + 1)] V fun e w' => Kp g V w' ∧ ROut g b V.heap.size cap T (fun c => V.heap.size ≤ c) w' d e R) := fun V hV => by rw [← hR]; exact HA.out V (r :: l) d f hV HL.out hd (by simp only [zl]; omega) (by simp only [need, mL_cons, zl, mL_len]; omega)
  clear hR
  go_wp2_with fail
  refine Calls.mono HSg.out ?_
  rintro e W1 ⟨rfl, hk1, hr1⟩
  have hz1 : w.heap.size + 1 ≤ W1.heap.size := by have := hk1.size; have := B0.out.first.1; omega
  have K1 : Hid (Kp g w W1) := (Kp.of B0.out.1).trans hk1
  have H1 : Hid (Bx W1 w.heap.size [vi ki 0, vS ⟨#[]⟩, vL none 0 0, vi ki 0]) := hk1.bx B0.out.first (by omega)
  have S1 := hZz hr1
  clear hk1 hr1 B0 HP0 HSg
  go_wp2_with fail
  refine (HCC.out _ S1.out).mono ?_
  rintro e W2 ⟨hk2, ho⟩
  have hz2 : w.heap.size + 1 ≤ W2.heap.size := by have := hk2.size; omega
  have K2 : Hid (Kp g w W2) := K1.out.trans hk2
  have H2 : Hid (Bx W2 w.heap.size [vi ki 0, vS ⟨#[]⟩, vL none 0 0, vi ki 0]) := hk2.bx H1.out (by omega)
  clear hk2 HCC K1 H1 S1
  cases R with
  | no ea er =>
   obtain ⟨her, hf, k9, u9, sq9, sn9, sc9, a9, rfl⟩ := ho
   have HF : Hid (RF g b (w.heap.size + 1) W2 ea er) := hf.mono (by omega)
   have HER := hZz her
   clear hf her
   obtain ⟨y0', y1', y2', y3', HFK, HFO, HFS, rr0, rr1, rr2, rr3, rf0, rf1, rf2, rf3, hrw'⟩ := fin9 (vi ki k9) (vS u9) (vL sq9 sn9 sc9) (vi ki a9) K2.out (Nat.le_refl _) (H2.out)
   go_wp2
   refine bodyPost_ret (v := .agg #[vi ki k9, vS u9, vL sq9 sn9 sc9, vi ki a9]) (by simp [results, Tryd.results18, go_sem, y0', y1', y2', y3']) rfl ⟨HFK.out, HER.out, (HF.out.off HFO.out HFS.out (by omega) (by omega) (by omega)).mono (by omega), _, _, _, _, _, _, rfl⟩
  | ok n l1 =>
   obtain ⟨L1, rfl, hrs, hend, k9, u9, sq9, sn9, sc9, a9, rfl, hnd⟩ := ho
   have HS := hZz hrs
   have HE1 := hZz hend
   have HNd : Hid (NdAt (fun c => w.heap.size + 1 ≤ c) W2 n [vi ki k9, vS u9, vL sq9 sn9 sc9, vi ki a9]) := NdAt.keep (Nat.le_refl _) (fun c hc _ => ⟨by omega, rfl⟩) _ _ hnd
   clear hrs hend hnd
   obtain ⟨y0', y1', y2', y3', HFK, HFO, HFS, rr0, rr1, rr2, rr3, rf0, rf1, rf2, rf3, hrw'⟩ := fin9 (vi ki k9) (vS u9) (vL sq9 sn9 sc9) (vi ki a9) K2.out (Nat.le_refl _) (H2.out)
   go_wp2
   refine bodyPost_ret (v := .agg #[vi ki k9, vS u9, vL sq9 sn9 sc9, vi ki a9]) (by simp [results, Tryd.results18, go_sem, y0', y1', y2', y3']) rfl ⟨HFK.out, L1, rfl, HS.out.off HFO.out HFS.out (by omega) (by omega), HE1.out, _, _, _, _, _, _, rfl, HNd.out.off HFO.out HFS.out (fun c hc => ⟨by omega, by omega⟩)⟩
theorem rlv_2 (g b cap : Nat) (T : List Tk) (hG : Hid (∀ x ∈ T, GoodT x)) (N : Nat) (HA : Hid (RLv g b cap T 3 N)) (HB : Hid (RLv g b cap T 2 (N - 1))) : RLv g b cap T 2 N := rlv_un g b cap T hG N 2 7 4 notB (.inl ⟨rfl, rfl, rfl, rfl⟩) HA HB
theorem rlv_6 (g b cap : Nat) (T : List Tk) (hG : Hid (∀ x ∈ T, GoodT x)) (N : Nat) (HA : Hid (RLv g b cap T 7 N)) (HB : Hid (RLv g b cap T 6 (N - 1))) : RLv g b cap T 6 N := rlv_un g b cap T hG N 6 6 5 (b1 45) (.inr ⟨rfl, rfl, rfl, rfl⟩) HA HB
def ksT (f d : Nat) (acc : List Nd) : List Tk → PR
 | [] => .no 0 0
 | q :: l1 => if isT q [(5, b1 44)] then par f (.ks acc) d l1 else if isT q [(5, b1 41)] then .ok (.mk 9 ByteArray.empty acc 0) l1 else .no q.2.2 30
theorem ks_step (f d : Nat) (acc : List Nd) (p : Tk) (l : List Tk) : par (f + 1) (.ks acc) d (p :: l) = match par f (.lv 0) d (p :: l) with | .no a e => .no a e | .ok n l1 => ksT f d (acc ++ [n]) l1 := by
 rw [par_succ]; unfold pst; dsimp only
 cases par f (.lv 0) d (p :: l) with
 | no a e => rfl
 | ok n l1 => cases l1 <;> rfl
def msR (g : Nat) (W : World) : Nat := match W.cell? ⟨g, 2, none⟩ with | some (vi ki 0) => lenAtR g W + 1 | _ => 0
theorem RS.msr {g b cap : Nat} {T : List Tk} {w : World} {L : List Tk} {d : Nat} (h : RS g b cap T w L d) : msR g w = L.length + 1 := by
 obtain ⟨_, _, _, hb⟩ := h.bx
 unfold msR; rw [hb.c 2 rfl, h.len]; simp
theorem RF.msr {g b lo : Nat} {w : World} {a e : Int} (h : RF g b lo w a e) (he : e ≠ 0) : msR g w = 0 := by
 obtain ⟨_, _, _, _, _, _, _, _, _, hb, _⟩ := h
 unfold msR; rw [hb.c 2 rfl]
 split
 ·rename_i q; simp only [Option.some.injEq, Value.int.injEq, true_and] at q; exact absurd q he
 ·rfl
def KM (g b cap : Nat) (T : List Tk) (w : World) (B : Nat) (nm : ByteArray) (at_ : Int) (d : Nat) (L : List Tk) (acc : List Nd) (sq : Option Addr) (sn sc : Nat) (xs : List Value) (V : World) : Prop :=
 Kp g w V ∧ Bx V (w.heap.size + 1) [vi ki 0, vS ⟨#[]⟩, vL none 0 0, vi ki 0] ∧ Bx V B [vi ki 9, vS nm, vL sq sn sc, vi ki at_] ∧ RS g b cap T V L d ∧ EndL (mL L) ∧ V.ownsRow (B + 1) 30 4 (vL sq sn sc) acc.length xs ∧ KidsL (fun c => B + 1 ≤ c ∧ (Value.slice sq sn sc).ownBlock ≠ some c) V acc xs
theorem KM.kp {g b cap : Nat} {T : List Tk} {w : World} {B : Nat} {nm : ByteArray} {at_ : Int} {d d' : Nat} {L L' : List Tk} {acc : List Nd} {sq : Option Addr} {sn sc : Nat} {xs : List Value} {V V' : World} (h : KM g b cap T w B nm at_ d L acc sq sn sc xs V) (hg : g < w.heap.size) (hB : w.heap.size + 2 ≤ B) (hk : Kp g V V') (hp : RS g b cap T V' L' d') (he : EndL (mL L')) : KM g b cap T w B nm at_ d' L' acc sq sn sc xs V' :=
 ⟨h.1.trans hk, hk.bx h.2.1 (by omega), hk.bx h.2.2.1 (by omega), hp, he, ownsRow_kp h.2.2.2.2.2.1 hk (by omega), KidsL.keep hk.size (fun c hc hl => ⟨hc, hk.block c hl (by omega)⟩) _ _ h.2.2.2.2.2.2⟩
theorem KM.drew {g b cap : Nat} {T : List Tk} {w : World} {B : Nat} {nm : ByteArray} {at_ : Int} {d : Nat} {L : List Tk} {acc : List Nd} {sq : Option Addr} {sn sc : Nat} {xs : List Value} {V : World} (h : KM g b cap T w B nm at_ d L acc sq sn sc xs V) : KM g b cap T w B nm at_ d L acc sq sn sc xs V.drew :=
 ⟨h.1.drew, h.2.1, h.2.2.1, h.2.2.2.1.drew, h.2.2.2.2.1, h.2.2.2.2.2.1, KidsL.keep (w := V) (W := V.drew) (Nat.le_refl _) (fun c hc _ => ⟨hc, rfl⟩) _ _ h.2.2.2.2.2.2⟩
theorem KM.more {g b cap : Nat} {T : List Tk} {w : World} {B : Nat} {nm : ByteArray} {at_ : Int} {d : Nat} {L : List Tk} {acc : List Nd} {sq sq' : Option Addr} {sn sc sn' sc' : Nat} {xs : List Value} {V V' : World} {n : Nd} {c0 c1 c2 c3 : Value} (h : KM g b cap T w B nm at_ d L acc sq sn sc xs V) (hg : g < w.heap.size) (hbl : b < w.heap.size) (hB : w.heap.size + 2 ≤ B)
  (hn : NdAt (fun c => B + 1 ≤ c ∧ (Value.slice sq sn sc).ownBlock ≠ some c) V n [c0, c1, c2, c3]) (hgr : V.grownBy V' (Value.slice sq sn sc).ownBlock) (hnew : ∀ c, (Value.slice sq' sn' sc').ownBlock = some c → c < V.heap.size → (Value.slice sq sn sc).ownBlock = some c)
  (hown : V'.ownsRow (B + 1) 30 4 (vL sq' sn' sc') (acc ++ [n]).length (xs ++ [c0, c1, c2, c3])) : KM g b cap T w B nm at_ d L (acc ++ [n]) sq' sn' sc' (xs ++ [c0, c1, c2, c3]) (V'.setCell ⟨B, 2, none⟩ (vL sq' sn' sc')) := by
 have hob : ∀ c, (Value.slice sq sn sc).ownBlock = some c → B + 1 ≤ c := fun c hc => (ob_lt h.2.2.2.2.2.1 hc).1
 have hz := h.1.size
 have hz1 := h.2.2.1.1
 have bl : ∀ c, c < V.heap.size → (Value.slice sq sn sc).ownBlock ≠ some c → V'.heap[c]? = V.heap[c]? := fun c hc hne => hgr.block c hc (fun e => hne e.symm)
 have kp : Kp g w V' := ⟨hgr.os.trans h.1.os, hgr.tape.trans h.1.tape, hgr.output.trans h.1.output, Nat.le_trans hz hgr.size, fun k hk hg' => (bl k (by omega) (fun e => by have := hob _ e; omega)).trans (h.1.block k hk hg')⟩
 have bx : ∀ b l, b < B + 1 → Bx V b l → Bx V' b l := fun b l hb hB => by
  have q := bl b hB.1 (fun e => by have := hob _ e; omega)
  exact ⟨Nat.lt_of_lt_of_le hB.1 hgr.size, fun i v e => ⟨(World.cell?_of_block (w := V) (a := ⟨b, i, none⟩) q).trans (hB.2 i v e).1, (World.frozen?_of_block (w := V) (a := ⟨b, i, none⟩) q).trans (hB.2 i v e).2⟩⟩
 have k2 : ∀ c, c < V'.heap.size → c ≠ B → (V'.setCell ⟨B, 2, none⟩ (vL sq' sn' sc')).heap[c]? = V'.heap[c]? := fun c _ hc => Below.heap_setCell _ _ _ _ hc
 refine ⟨kp.set (p := ⟨B, 2, none⟩) (.inr (by show _ ≤ B; omega)) _, (bx _ _ (by omega) h.2.1).setOther (by omega) [_] 2, (bx _ _ (by omega) h.2.2.1).set1 2 _ (by simp), ?_, h.2.2.2.2.1, ?_, ?_⟩
 ·refine RS.off (r := B) (h.2.2.2.1.keep hgr.size (fun c hc => bl c ?_ ?_)) k2 (by simp) (by omega) (by omega)
  ·rcases hc with rfl | rfl; exact h.2.2.2.1.lt; exact h.2.2.2.1.tr.1
  ·intro e; have := hob _ e; rcases hc with rfl | rfl <;> omega
 ·exact ownsRow_keep hown (fun c h1 h2 => Below.heap_setCell _ _ _ _ (by show c ≠ B; omega))
 ·refine KidsL.keep (w := V) (by simpa using hgr.size) (fun c hc hl => ⟨⟨hc.1, fun e => hc.2 (hnew c e hl)⟩, ?_⟩) _ _ (KidsL.snoc hn _ _ h.2.2.2.2.2.2)
  rw [Below.heap_setCell _ _ _ _ (by show c ≠ B; omega)]; exact bl c hl hc.2
theorem KM.node {g b cap : Nat} {T : List Tk} {w : World} {B : Nat} {nm : ByteArray} {at_ : Int} {d : Nat} {L : List Tk} {acc : List Nd} {sq : Option Addr} {sn sc : Nat} {xs : List Value} {V : World} (h : KM g b cap T w B nm at_ d L acc sq sn sc xs V) (h0 : 0 < acc.length) : NdAt (fun c => B + 1 ≤ c) V (.mk 9 nm acc at_) [vi ki 9, vS nm, vL sq sn sc, vi ki at_] := by
 have hown := h.2.2.2.2.2.1
 rcases hown.2 with ⟨e, h1⟩ | ⟨g1, cp, cur, e, h1, h2, h3, h4, h5, h6⟩
 ·omega
 ·cases e
  have hlt := (Array.getElem?_eq_some_iff.1 h2).1
  refine NdAt.row h0 h3 h4 h1 hlt (KidsL.row acc xs 0 (fun j v hv => ?_) (KidsL.keep (Nat.le_refl _) (fun c hc _ => ⟨hc.1, rfl⟩) _ _ h.2.2.2.2.2.2))
  have hj := (List.getElem?_eq_some_iff.1 hv).1
  rw [hown.1] at hj
  rw [Nat.zero_mul, Nat.zero_add, hown.cellAt j hj]; exact hv
theorem KM.start {g b cap : Nat} {T : List Tk} {w : World} {B : Nat} {nm : ByteArray} {at_ : Int} {d : Nat} {L : List Tk} {V : World} (hk : Kp g w V) (h1 : Bx V (w.heap.size + 1) [vi ki 0, vS ⟨#[]⟩, vL none 0 0, vi ki 0]) (h2 : Bx V B [vi ki 9, vS nm, vL none 0 0, vi ki at_]) (h3 : RS g b cap T V L d) (h4 : EndL (mL L)) : KM g b cap T w B nm at_ d L [] none 0 0 [] V :=
 ⟨hk, h1, h2, h3, h4, World.ownsRow_nil _ _ _ _, rfl⟩
end Go.Proofs.YtaoocecipacnhaaDoor
