import Derived.Test.YtaoocecipacnhaaDoorX12
open Go.Value renaming int → vi, string → vS, slice → vL
open Go.IntKind renaming i64 → ki
open List renaming setIfInBounds_toArray → zb, set_cons_zero → zc, set_cons_succ → zd, length_cons → zl
open Go.Act renaming put → za
open Go.Ending renaming returned → zr
set_option maxRecDepth 100000
set_option maxHeartbeats 16000000
set_option linter.all false
namespace Go.Proofs.YtaoocecipacnhaaDoor
open Go.RowKit
def nmF (r : Tg → Nat → List Tk → PR) (d : Nat) (p : Tk) (l : List Tk) : PR :=
 match l with
 | [] => .no 0 0
 | q :: l1 =>
  if q.1 = 3 ∧ typB p.2.1 = true then .ok (.mk 5 p.2.1 [.mk 3 q.2.1 [] q.2.2] p.2.2) l1
  else if isT q [(5, b1 40)] then
   if d = 20 then .no p.2.2 31
   else match l1 with
    | [] => .no 0 0
    | u :: l2 =>
     if isT u [(5, b1 41)] then .ok (.mk 9 p.2.1 [] p.2.2) l2
     else match r (.ks []) (d + 1) (u :: l2) with
      | .no a e => .no a e
      | .ok n l3 => .ok (.mk 9 p.2.1 n.ks p.2.2) l3
  else .no q.2.2 30
def RNm (g b cap : Nat) (T : List Tk) (N : Nat) : Prop :=
 ∀ (w : World) (t : Tk) (l : List Tk) (d f : Nat), RS g b cap T w l d → EndL (mL l) → GoodT t → free (mT t) = true → d ≤ 20 → l.length ≤ N → 10 * l.length + 10 ≤ f →
  Calls Tryd.prog 67 #[.pointer (some ⟨g, 0, none⟩), .agg #[vi ki t.1, vS t.2.1, vi ki t.2.2], vS (lowB t.2.1)] w fun e w' => Kp g w w' ∧ ROut g b w.heap.size cap T (fun c => w.heap.size ≤ c) w' d e (nmF (par f) d (mT t) (mL l))
theorem mT_kind {r : Tk} : (r.1 = 1 → (mT r).1 = if r.2.1.data.toList.contains 46 then 2 else 1) ∧ (r.1 = 2 → (mT r).1 = 4 ∧ (mT r).2.1 = lowB r.2.1) ∧ (r.1 = 3 → (mT r).1 = 3) ∧ (r.1 = 4 → (mT r).1 = 5) ∧ (r.1 = 5 → (mT r).1 = 0) ∧ (r.1 ≠ 2 → (mT r).2.1 = r.2.1) := by
 refine ⟨fun h => ?_, fun h => ?_, fun h => ?_, fun h => ?_, fun h => ?_, fun h => ?_⟩ <;> simp [mT, h]
theorem rfail_raw (g : Nat) (lv : Value) (D er a0 a : Int) (w : World) (hb : Bx w g [lv, vi ki D, vi ki 0, vi ki a0]) :
  Calls Tryd.prog 19 #[.pointer (some ⟨g, 0, none⟩), vi ki er, vi ki a] w fun e w' => e = zr (.agg #[vi ki 0, vS ⟨#[]⟩, vL none 0 0, vi ki 0]) ∧ Kp g w w' ∧ Bx w' g [lv, vi ki D, vi ki er, vi ki a] := by
 have c2 := hb.c 2 rfl
 have c3 := hb.c 3 rfl
 have z2 := hb.f 2 rfl
 have z3 := hb.f 3 rfl
 have hg := hb.1
 have HB := hZz hb
 clear hb
 go_enter Tryd.func19, Tryd.ntmps19
 go_wp2
 refine bodyPost_ret (v := .agg #[vi ki 0, vS ⟨#[]⟩, vL none 0 0, vi ki 0]) (by simp [results, Tryd.results19, go_sem]) rfl ⟨rfl, ?_, ?_⟩
 ·exact (((Kp.refl g w).set (.inl rfl) _).set (.inl rfl) _).alloc _
 ·exact ((HB.out.set1 2 _ (by simp)).set1 3 _ (by simp)).alloc _
theorem prim_open {g b cap d : Nat} {T pre l : List Tk} {r : Tk} {w : World} {pa : Int} (htr : TR w b T) (he : T = pre ++ r :: l) (hne : b ≠ g) (hle : T.length ≤ cap) (hm : cap ≤ maxLen) (hbx : Bx w g [vL (some ⟨b, pre.length * 3, none⟩) (r :: l).length (cap - pre.length), vi ki (d : Int), vi ki 0, vi ki pa]) :
  Hid (Kp g w ((((w.setCell ⟨g, 0, none⟩ (vL (some ⟨b, pre.length * 3 + 3, none⟩) l.length (cap - pre.length - 1)))).alloc (.cells #[vi ki 0, vS ⟨#[]⟩, vL none 0 0, vi ki 0] 30)).alloc (.cells #[vi ki r.1, vS r.2.1, vi ki r.2.2] 59))) ∧ Hid (Bx ((((w.setCell ⟨g, 0, none⟩ (vL (some ⟨b, pre.length * 3 + 3, none⟩) l.length (cap - pre.length - 1)))).alloc (.cells #[vi ki 0, vS ⟨#[]⟩, vL none 0 0, vi ki 0] 30)).alloc (.cells #[vi ki r.1, vS r.2.1, vi ki r.2.2] 59)) w.heap.size [vi ki 0, vS ⟨#[]⟩, vL none 0 0, vi ki 0]) ∧ Hid (Bx ((((w.setCell ⟨g, 0, none⟩ (vL (some ⟨b, pre.length * 3 + 3, none⟩) l.length (cap - pre.length - 1)))).alloc (.cells #[vi ki 0, vS ⟨#[]⟩, vL none 0 0, vi ki 0] 30)).alloc (.cells #[vi ki r.1, vS r.2.1, vi ki r.2.2] 59)) (w.heap.size + 1) [vi ki r.1, vS r.2.1, vi ki r.2.2]) ∧ Hid (RS g b cap T ((((w.setCell ⟨g, 0, none⟩ (vL (some ⟨b, pre.length * 3 + 3, none⟩) l.length (cap - pre.length - 1)))).alloc (.cells #[vi ki 0, vS ⟨#[]⟩, vL none 0 0, vi ki 0] 30)).alloc (.cells #[vi ki r.1, vS r.2.1, vi ki r.2.2] 59)) l d) := by
 have KA : Kp g w ((((w.setCell ⟨g, 0, none⟩ (vL (some ⟨b, pre.length * 3 + 3, none⟩) l.length (cap - pre.length - 1)))).alloc (.cells #[vi ki 0, vS ⟨#[]⟩, vL none 0 0, vi ki 0] 30)).alloc (.cells #[vi ki r.1, vS r.2.1, vi ki r.2.2] 59)) := (((Kp.refl g w).set (p := ⟨g, 0, none⟩) (.inl rfl) _).alloc _).alloc _
 refine ⟨KA, ?_, ?_, RS.next (w := w) htr he hne hle hm KA (((hbx.set1 0 _ (by simp)).alloc _).alloc _)⟩
 ·have q := Bx.new (w.setCell ⟨g, 0, none⟩ (vL (some ⟨b, pre.length * 3 + 3, none⟩) l.length (cap - pre.length - 1))) [vi ki 0, vS ⟨#[]⟩, vL none 0 0, vi ki 0] 30
  rw [show (w.setCell ⟨g, 0, none⟩ (vL (some ⟨b, pre.length * 3 + 3, none⟩) l.length (cap - pre.length - 1))).heap.size = w.heap.size by simp] at q
  exact q.alloc _
 ·have q := Bx.new ((w.setCell ⟨g, 0, none⟩ (vL (some ⟨b, pre.length * 3 + 3, none⟩) l.length (cap - pre.length - 1))).alloc (.cells #[vi ki 0, vS ⟨#[]⟩, vL none 0 0, vi ki 0] 30)) [vi ki r.1, vS r.2.1, vi ki r.2.2] 59
  rw [show ((w.setCell ⟨g, 0, none⟩ (vL (some ⟨b, pre.length * 3 + 3, none⟩) l.length (cap - pre.length - 1))).alloc (.cells #[vi ki 0, vS ⟨#[]⟩, vL none 0 0, vi ki 0] 30)).heap.size = w.heap.size + 1 by simp] at q
  exact q
theorem rprim_3 (g b cap : Nat) (T : List Tk) (r : Tk) (l : List Tk) (d : Nat) (hd : d ≤ 20) (hk : r.1 = 3) (w : World) (h : RS g b cap T w (r :: l) d) (hGr : GoodT r) (hL : EndL (mL l)) :
  Calls Tryd.prog 58 #[.pointer (some ⟨g, 0, none⟩)] w fun e w' => Kp g w w' ∧ ROut g b w.heap.size cap T (fun c => w.heap.size ≤ c) w' d e (.ok (.mk 3 r.2.1 [] r.2.2) (mL l)) := by
 have g1 : (r.1 == 1) = false := by rw [hk]; rfl
 have g3 : (r.1 == 3) = true := by rw [hk]; rfl
 have g1p : (r.1 = 1) = False := eq_false (by omega)
 have g3p : (r.1 = 3) = True := eq_true hk
 have HK : Hid _ := hk
 clear hk
 have hl1 : 1 ≤ l.length := by obtain ⟨q, l', rfl⟩ := mL_none hL; simp
 have HL := hZz hL
 have hg := h.lt
 have hbl := h.tr.1
 have HGr := hZz hGr
 have hsz := hGr.size
 obtain ⟨pre, pa, cg0, cg1, cg2, fg0, fg1, t0, t1, t2, hgW, hbW, hlen, hmost, hle, hne, HEQ, HBX, HTR⟩ := RS.facts (h)
 clear h hL hGr
 have hcp : ¬ cap - pre.length = 1 := by omega
 obtain ⟨KA, KB1, KB2, KR⟩ := prim_open HTR.out HEQ.out hne hle hmost HBX.out
 go_enter Tryd.func58, Tryd.ntmps58
 go_wp2_with fail
 refine (rlower_any r.2.1 (by omega) _).mono ?_
 rintro e W1 ⟨rfl, hb⟩
 have K1 : Hid (Kp g w W1) := KA.out.trans (Kp.of hb)
 have H1 : Hid (Bx W1 w.heap.size [vi ki 0, vS ⟨#[]⟩, vL none 0 0, vi ki 0]) := KB1.out.below hb
 have H2 : Hid (Bx W1 (w.heap.size + 1) [vi ki r.1, vS r.2.1, vi ki r.2.2]) := KB2.out.below hb
 have Q1 : Hid (RS g b cap T W1 l d) := KR.out.below hb
 clear hb KA KB1 KB2 KR hcp cg0 cg1 cg2 fg0 fg1 t0 t1 t2 hgW hbW hlen hmost hle HEQ HBX HTR hne
 have j0 := H2.out.c 0 rfl
 have j1 := H2.out.c 1 rfl
 have j2 := H2.out.c 2 rfl
 have hj := H2.out.1
 obtain ⟨y0', y1', y2', y3', HFK, HFO, HFS, rr0, rr1, rr2, rr3, rf0, rf1, rf2, rf3, hrw'⟩ := fin9 (vi ki 3) (vS r.2.1) (vL none 0 0) (vi ki r.2.2) K1.out (Nat.le_refl _) (H1.out)
 go_wp2
 refine bodyPost_ret (v := .agg #[vi ki 3, vS r.2.1, vL none 0 0, vi ki r.2.2]) (by simp [results, Tryd.results58, go_sem, y0', y1', y2', y3']) rfl ⟨HFK.out, ⟨l, rfl, Q1.out.off HFO.out HFS.out (by omega) (by omega), HL.out, _, _, _, _, _, _, rfl, NdAt.leaf _ _ _ _ _⟩⟩
theorem rprim_true (g b cap : Nat) (T : List Tk) (r : Tk) (l : List Tk) (d : Nat) (hd : d ≤ 20) (hk : r.1 = 2) (hw : lowB r.2.1 = trueB) (w : World) (h : RS g b cap T w (r :: l) d) (hGr : GoodT r) (hL : EndL (mL l)) :
  Calls Tryd.prog 58 #[.pointer (some ⟨g, 0, none⟩)] w fun e w' => Kp g w w' ∧ ROut g b w.heap.size cap T (fun c => w.heap.size ≤ c) w' d e (.ok (.mk 4 trueB [] r.2.2) (mL l)) := by
 have g1 : (r.1 == 1) = false := by rw [hk]; rfl
 have g3 : (r.1 == 3) = false := by rw [hk]; rfl
 have g4 : (r.1 == 4) = false := by rw [hk]; rfl
 have g2 : (r.1 == 2) = true := by rw [hk]; rfl
 have g1p : (r.1 = 1) = False := eq_false (by omega)
 have g3p : (r.1 = 3) = False := eq_false (by omega)
 have g4p : (r.1 = 4) = False := eq_false (by omega)
 have g2p : (r.1 = 2) = True := eq_true hk
 have HK : Hid _ := hk
 clear hk
 have hl1 : 1 ≤ l.length := by obtain ⟨q, l', rfl⟩ := mL_none hL; simp
 have HL := hZz hL
 have hg := h.lt
 have hbl := h.tr.1
 have HGr := hZz hGr
 have hsz := hGr.size
 obtain ⟨pre, pa, cg0, cg1, cg2, fg0, fg1, t0, t1, t2, hgW, hbW, hlen, hmost, hle, hne, HEQ, HBX, HTR⟩ := RS.facts (h)
 clear h hL hGr
 have hcp : ¬ cap - pre.length = 1 := by omega
 obtain ⟨KA, KB1, KB2, KR⟩ := prim_open HTR.out HEQ.out hne hle hmost HBX.out
 go_enter Tryd.func58, Tryd.ntmps58
 go_wp2_with fail
 refine (rlower_any r.2.1 (by omega) _).mono ?_
 rintro e W1 ⟨rfl, hb⟩
 have K1 : Hid (Kp g w W1) := KA.out.trans (Kp.of hb)
 have H1 : Hid (Bx W1 w.heap.size [vi ki 0, vS ⟨#[]⟩, vL none 0 0, vi ki 0]) := KB1.out.below hb
 have H2 : Hid (Bx W1 (w.heap.size + 1) [vi ki r.1, vS r.2.1, vi ki r.2.2]) := KB2.out.below hb
 have Q1 : Hid (RS g b cap T W1 l d) := KR.out.below hb
 clear hb KA KB1 KB2 KR hcp cg0 cg1 cg2 fg0 fg1 t0 t1 t2 hgW hbW hlen hmost hle HEQ HBX HTR hne
 have j0 := H2.out.c 0 rfl
 have j1 := H2.out.c 1 rfl
 have j2 := H2.out.c 2 rfl
 have hj := H2.out.1
 rw [hw]
 clear hw
 unfold trueB
 obtain ⟨y0', y1', y2', y3', HFK, HFO, HFS, rr0, rr1, rr2, rr3, rf0, rf1, rf2, rf3, hrw'⟩ := fin9 (vi ki 4) (vS ⟨#[116, 114, 117, 101]⟩) (vL none 0 0) (vi ki r.2.2) K1.out (Nat.le_refl _) (H1.out)
 go_wp2
 refine bodyPost_ret (v := .agg #[vi ki 4, vS ⟨#[116, 114, 117, 101]⟩, vL none 0 0, vi ki r.2.2]) (by simp [results, Tryd.results58, go_sem, y0', y1', y2', y3']) rfl ⟨HFK.out, ⟨l, rfl, Q1.out.off HFO.out HFS.out (by omega) (by omega), HL.out, _, _, _, _, _, _, rfl, NdAt.leaf _ _ _ _ _⟩⟩
theorem rprim_false (g b cap : Nat) (T : List Tk) (r : Tk) (l : List Tk) (d : Nat) (hd : d ≤ 20) (hk : r.1 = 2) (hw : lowB r.2.1 = falseB) (w : World) (h : RS g b cap T w (r :: l) d) (hGr : GoodT r) (hL : EndL (mL l)) :
  Calls Tryd.prog 58 #[.pointer (some ⟨g, 0, none⟩)] w fun e w' => Kp g w w' ∧ ROut g b w.heap.size cap T (fun c => w.heap.size ≤ c) w' d e (.ok (.mk 4 falseB [] r.2.2) (mL l)) := by
 have g1 : (r.1 == 1) = false := by rw [hk]; rfl
 have g3 : (r.1 == 3) = false := by rw [hk]; rfl
 have g4 : (r.1 == 4) = false := by rw [hk]; rfl
 have g2 : (r.1 == 2) = true := by rw [hk]; rfl
 have g1p : (r.1 = 1) = False := eq_false (by omega)
 have g3p : (r.1 = 3) = False := eq_false (by omega)
 have g4p : (r.1 = 4) = False := eq_false (by omega)
 have g2p : (r.1 = 2) = True := eq_true hk
 have HK : Hid _ := hk
 clear hk
 have hl1 : 1 ≤ l.length := by obtain ⟨q, l', rfl⟩ := mL_none hL; simp
 have HL := hZz hL
 have hg := h.lt
 have hbl := h.tr.1
 have HGr := hZz hGr
 have hsz := hGr.size
 obtain ⟨pre, pa, cg0, cg1, cg2, fg0, fg1, t0, t1, t2, hgW, hbW, hlen, hmost, hle, hne, HEQ, HBX, HTR⟩ := RS.facts (h)
 clear h hL hGr
 have hcp : ¬ cap - pre.length = 1 := by omega
 obtain ⟨KA, KB1, KB2, KR⟩ := prim_open HTR.out HEQ.out hne hle hmost HBX.out
 go_enter Tryd.func58, Tryd.ntmps58
 go_wp2_with fail
 refine (rlower_any r.2.1 (by omega) _).mono ?_
 rintro e W1 ⟨rfl, hb⟩
 have K1 : Hid (Kp g w W1) := KA.out.trans (Kp.of hb)
 have H1 : Hid (Bx W1 w.heap.size [vi ki 0, vS ⟨#[]⟩, vL none 0 0, vi ki 0]) := KB1.out.below hb
 have H2 : Hid (Bx W1 (w.heap.size + 1) [vi ki r.1, vS r.2.1, vi ki r.2.2]) := KB2.out.below hb
 have Q1 : Hid (RS g b cap T W1 l d) := KR.out.below hb
 clear hb KA KB1 KB2 KR hcp cg0 cg1 cg2 fg0 fg1 t0 t1 t2 hgW hbW hlen hmost hle HEQ HBX HTR hne
 have j0 := H2.out.c 0 rfl
 have j1 := H2.out.c 1 rfl
 have j2 := H2.out.c 2 rfl
 have hj := H2.out.1
 rw [hw]
 clear hw
 unfold falseB
 obtain ⟨y0', y1', y2', y3', HFK, HFO, HFS, rr0, rr1, rr2, rr3, rf0, rf1, rf2, rf3, hrw'⟩ := fin9 (vi ki 4) (vS ⟨#[102, 97, 108, 115, 101]⟩) (vL none 0 0) (vi ki r.2.2) K1.out (Nat.le_refl _) (H1.out)
 go_wp2
 refine bodyPost_ret (v := .agg #[vi ki 4, vS ⟨#[102, 97, 108, 115, 101]⟩, vL none 0 0, vi ki r.2.2]) (by simp [results, Tryd.results58, go_sem, y0', y1', y2', y3']) rfl ⟨HFK.out, ⟨l, rfl, Q1.out.off HFO.out HFS.out (by omega) (by omega), HL.out, _, _, _, _, _, _, rfl, NdAt.leaf _ _ _ _ _⟩⟩
theorem rprim_name (g b cap : Nat) (T : List Tk) (r : Tk) (l : List Tk) (d : Nat) (hd : d ≤ 20) (hk : r.1 = 2) (hf : free (mT r) = true) (N f : Nat) (HN : Hid (RNm g b cap T N)) (hN : l.length ≤ N) (hff : 10 * l.length + 10 ≤ f) (n1 : lowB r.2.1 ≠ trueB) (n2 : lowB r.2.1 ≠ falseB) (w : World) (h : RS g b cap T w (r :: l) d) (hGr : GoodT r) (hL : EndL (mL l)) :
  Calls Tryd.prog 58 #[.pointer (some ⟨g, 0, none⟩)] w fun e w' => Kp g w w' ∧ ROut g b w.heap.size cap T (fun c => w.heap.size ≤ c) w' d e (nmF (par f) d (mT r) (mL l)) := by
 obtain ⟨R, hR⟩ : ∃ R, nmF (par f) d (mT r) (mL l) = R := ⟨_, rfl⟩
 rw [hR]
 have HRR := hZz hR
 clear hR
 have g1 : (r.1 == 1) = false := by rw [hk]; rfl
 have g3 : (r.1 == 3) = false := by rw [hk]; rfl
 have g4 : (r.1 == 4) = false := by rw [hk]; rfl
 have g2 : (r.1 == 2) = true := by rw [hk]; rfl
 have g1p : (r.1 = 1) = False := eq_false (by omega)
 have g3p : (r.1 = 3) = False := eq_false (by omega)
 have g4p : (r.1 = 4) = False := eq_false (by omega)
 have g2p : (r.1 = 2) = True := eq_true hk
 have m1 : ((lowB r.2.1).toList == [116, 114, 117, 101]) = false := (lit_eq _ [116, 114, 117, 101]).trans (decide_eq_false n1)
 have m2 : ((lowB r.2.1).toList == [102, 97, 108, 115, 101]) = false := (lit_eq _ [102, 97, 108, 115, 101]).trans (decide_eq_false n2)
 have HK : Hid _ := hk
 clear hk n1 n2
 have hl1 : 1 ≤ l.length := by obtain ⟨q, l', rfl⟩ := mL_none hL; simp
 have HL := hZz hL
 have hg := h.lt
 have hbl := h.tr.1
 have HGr := hZz hGr
 have hsz := hGr.size
 obtain ⟨pre, pa, cg0, cg1, cg2, fg0, fg1, t0, t1, t2, hgW, hbW, hlen, hmost, hle, hne, HEQ, HBX, HTR⟩ := RS.facts (h)
 clear h hL hGr
 have hcp : ¬ cap - pre.length = 1 := by omega
 obtain ⟨KA, KB1, KB2, KR⟩ := prim_open HTR.out HEQ.out hne hle hmost HBX.out
 go_enter Tryd.func58, Tryd.ntmps58
 go_wp2_with fail
 refine (rlower_any r.2.1 (by omega) _).mono ?_
 rintro e W1 ⟨rfl, hb⟩
 have K1 : Hid (Kp g w W1) := KA.out.trans (Kp.of hb)
 have H1 : Hid (Bx W1 w.heap.size [vi ki 0, vS ⟨#[]⟩, vL none 0 0, vi ki 0]) := KB1.out.below hb
 have H2 : Hid (Bx W1 (w.heap.size + 1) [vi ki r.1, vS r.2.1, vi ki r.2.2]) := KB2.out.below hb
 have Q1 : Hid (RS g b cap T W1 l d) := KR.out.below hb
 clear hb KA KB1 KB2 KR hcp cg0 cg1 cg2 fg0 fg1 t0 t1 t2 hgW hbW hlen hmost hle HEQ HBX HTR hne
 have j0 := H2.out.c 0 rfl
 have j1 := H2.out.c 1 rfl
 have j2 := H2.out.c 2 rfl
 have hj := H2.out.1
 have hfr := mT_free HGr.out
 rw [hf, decide_eq_true HK.out, Bool.true_and] at hfr
 have hrs : rsvd (lowB (lowB r.2.1)) = false := by rw [lowB_lowB]; simpa using hfr.symm
 clear hfr
 have HRs := rreserved_any (lowB r.2.1) (by rw [lowB_size]; omega) W1
 rw [hrs] at HRs
 have HRv : Hid _ := HRs
 clear HRs hrs
 go_wp2_with fail
 refine Calls.mono HRv.out ?_
 rintro e W2 ⟨rfl, hb⟩
 have K2 : Hid (Kp g w W2) := K1.out.trans (Kp.of hb)
 have H3 : Hid (Bx W2 w.heap.size [vi ki 0, vS ⟨#[]⟩, vL none 0 0, vi ki 0]) := H1.out.below hb
 have H4 : Hid (Bx W2 (w.heap.size + 1) [vi ki r.1, vS r.2.1, vi ki r.2.2]) := H2.out.below hb
 have Q2 : Hid (RS g b cap T W2 l d) := Q1.out.below hb
 clear hb HRv K1 H1 H2 Q1 j0 j1 j2 hj
 have j0 := H4.out.c 0 rfl
 have j1 := H4.out.c 1 rfl
 have j2 := H4.out.c 2 rfl
 have hj := H4.out.1
 have HC := HN.out W2 r l d f Q2.out HL.out HGr.out hf hd hN hff
 rw [HRR.out] at HC
 have HCC : Hid _ := HC
 clear HC HRR hf m1 m2 HN
 go_wp2_with fail
 refine Calls.mono HCC.out ?_
 rintro e W3 ⟨hk3, ho⟩
 have K3 : Hid (Kp g w W3) := K2.out.trans hk3
 have H5 : Hid (Bx W3 w.heap.size [vi ki 0, vS ⟨#[]⟩, vL none 0 0, vi ki 0]) := hk3.bx H3.out (by omega)
 have hz2 : w.heap.size + 1 < W2.heap.size := H4.out.1
 clear hk3 K2 H3 H4 Q2 HCC j0 j1 j2 hj
 cases R with
 | no ea er =>
  obtain ⟨her, hf, k9, u9, sq9, sn9, sc9, a9, rfl⟩ := ho
  have HF := hZz hf
  have HER := hZz her
  clear hf her
  obtain ⟨y0', y1', y2', y3', HFK, HFO, HFS, rr0, rr1, rr2, rr3, rf0, rf1, rf2, rf3, hrw'⟩ := fin9 (vi ki k9) (vS u9) (vL sq9 sn9 sc9) (vi ki a9) K3.out (Nat.le_refl _) (H5.out)
  go_wp2
  refine bodyPost_ret (v := .agg #[vi ki k9, vS u9, vL sq9 sn9 sc9, vi ki a9]) (by simp [results, Tryd.results58, go_sem, y0', y1', y2', y3']) rfl ⟨HFK.out, HER.out, (HF.out.off HFO.out HFS.out (by omega) (by omega) (by omega)).mono (by omega), _, _, _, _, _, _, rfl⟩
 | ok n l1 =>
  obtain ⟨L1, rfl, hrs, hend, k9, u9, sq9, sn9, sc9, a9, rfl, hnd⟩ := ho
  have HS := hZz hrs
  have HE1 := hZz hend
  have HNd := hZz hnd
  clear hrs hend hnd
  obtain ⟨y0', y1', y2', y3', HFK, HFO, HFS, rr0, rr1, rr2, rr3, rf0, rf1, rf2, rf3, hrw'⟩ := fin9 (vi ki k9) (vS u9) (vL sq9 sn9 sc9) (vi ki a9) K3.out (Nat.le_refl _) (H5.out)
  go_wp2
  refine bodyPost_ret (v := .agg #[vi ki k9, vS u9, vL sq9 sn9 sc9, vi ki a9]) (by simp [results, Tryd.results58, go_sem, y0', y1', y2', y3']) rfl ⟨HFK.out, L1, rfl, HS.out.off HFO.out HFS.out (by omega) (by omega), HE1.out, _, _, _, _, _, _, rfl, HNd.out.off HFO.out HFS.out (fun c hc => ⟨by omega, by omega⟩)⟩
theorem rprim_sign (g b cap : Nat) (T : List Tk) (r : Tk) (l : List Tk) (d : Nat) (hd : d ≤ 20) (hGT : Hid (∀ x ∈ T, GoodT x)) (hk : r.1 = 4) (hw : r.2.1 ≠ b1 40) (w : World) (h : RS g b cap T w (r :: l) d) (hGr : GoodT r) (hL : EndL (mL l)) :
  Calls Tryd.prog 58 #[.pointer (some ⟨g, 0, none⟩)] w fun e w' => Kp g w w' ∧ ROut g b w.heap.size cap T (fun c => w.heap.size ≤ c) w' d e (.no r.2.2 30) := by
 have g1 : (r.1 == 1) = false := by rw [hk]; rfl
 have g3 : (r.1 == 3) = false := by rw [hk]; rfl
 have g4 : (r.1 == 4) = true := by rw [hk]; rfl
 have g2 : (r.1 == 2) = false := by rw [hk]; rfl
 have g5 : (r.1 == 5) = false := by rw [hk]; rfl
 have g1p : (r.1 = 1) = False := eq_false (by omega)
 have g3p : (r.1 = 3) = False := eq_false (by omega)
 have g4p : (r.1 = 4) = True := eq_true hk
 have g2p : (r.1 = 2) = False := eq_false (by omega)
 have g5p : (r.1 = 5) = False := eq_false (by omega)
 have HK : Hid _ := hk
 clear hk
 have hl1 : 1 ≤ l.length := by obtain ⟨q, l', rfl⟩ := mL_none hL; simp
 have HL := hZz hL
 have hg := h.lt
 have hbl := h.tr.1
 have HGr := hZz hGr
 have hsz := hGr.size
 obtain ⟨pre, pa, cg0, cg1, cg2, fg0, fg1, t0, t1, t2, hgW, hbW, hlen, hmost, hle, hne, HEQ, HBX, HTR⟩ := RS.facts (h)
 clear h hL hGr
 have hcp : ¬ cap - pre.length = 1 := by omega
 obtain ⟨KA, KB1, KB2, KR⟩ := prim_open HTR.out HEQ.out hne hle hmost HBX.out
 go_enter Tryd.func58, Tryd.ntmps58
 go_wp2_with fail
 refine (rlower_any r.2.1 (by omega) _).mono ?_
 rintro e W1 ⟨rfl, hb⟩
 have K1 : Hid (Kp g w W1) := KA.out.trans (Kp.of hb)
 have H1 : Hid (Bx W1 w.heap.size [vi ki 0, vS ⟨#[]⟩, vL none 0 0, vi ki 0]) := KB1.out.below hb
 have H2 : Hid (Bx W1 (w.heap.size + 1) [vi ki r.1, vS r.2.1, vi ki r.2.2]) := KB2.out.below hb
 have Q1 : Hid (RS g b cap T W1 l d) := KR.out.below hb
 clear hb KA KB1 KB2 KR hcp cg0 cg1 cg2 fg0 fg1 t0 t1 t2 hgW hbW hlen hmost hle HEQ HBX HTR hne
 have j0 := H2.out.c 0 rfl
 have j1 := H2.out.c 1 rfl
 have j2 := H2.out.c 2 rfl
 have hj := H2.out.1
 have m1 : (r.2.1.toList == [40]) = false := (lit_eq _ [40]).trans (decide_eq_false hw)
 clear hw
 obtain ⟨q, l0, hq⟩ := mL_none HL.out
 have hgq := (hq ▸ Q1.out).good hGT.out
 have HFl : Hid _ := rfail_ok g b (w.heap.size + 1) cap T l0 q hgq.size d (by omega) 30 r.2.2 W1 (hq ▸ Q1.out)
 clear hgq hq
 go_wp2_with fail
 refine Calls.mono HFl.out ?_
 rintro e W6 ⟨rfl, hk6, hf6⟩
 have K9 : Hid (Kp g w W6) := K1.out.trans hk6
 have H9 : Hid (Bx W6 w.heap.size [vi ki 0, vS ⟨#[]⟩, vL none 0 0, vi ki 0]) := hk6.bx H1.out (by omega)
 have HF6 := hZz hf6
 clear hk6 hf6 HFl
 obtain ⟨y0', y1', y2', y3', HFK, HFO, HFS, rr0, rr1, rr2, rr3, rf0, rf1, rf2, rf3, hrw'⟩ := fin9 (vi ki 0) (vS ⟨#[]⟩) (vL none 0 0) (vi ki 0) K9.out (Nat.le_refl _) (H9.out)
 go_wp2
 refine bodyPost_ret (v := .agg #[vi ki 0, vS ⟨#[]⟩, vL none 0 0, vi ki 0]) (by simp [results, Tryd.results58, go_sem, y0', y1', y2', y3']) rfl ⟨HFK.out, by decide, (HF6.out.off HFO.out HFS.out (by omega) (by omega) (by omega)).mono (by omega), _, _, _, _, _, _, rfl⟩
theorem rprim_rsv (g b cap : Nat) (T : List Tk) (r : Tk) (l : List Tk) (d : Nat) (hd : d ≤ 20) (hGT : Hid (∀ x ∈ T, GoodT x)) (hk : r.1 = 2) (hf : free (mT r) = false) (n1 : lowB r.2.1 ≠ trueB) (n2 : lowB r.2.1 ≠ falseB) (w : World) (h : RS g b cap T w (r :: l) d) (hGr : GoodT r) (hL : EndL (mL l)) :
  Calls Tryd.prog 58 #[.pointer (some ⟨g, 0, none⟩)] w fun e w' => Kp g w w' ∧ ROut g b w.heap.size cap T (fun c => w.heap.size ≤ c) w' d e (.no r.2.2 30) := by
 have g1 : (r.1 == 1) = false := by rw [hk]; rfl
 have g3 : (r.1 == 3) = false := by rw [hk]; rfl
 have g4 : (r.1 == 4) = false := by rw [hk]; rfl
 have g2 : (r.1 == 2) = true := by rw [hk]; rfl
 have g5 : (r.1 == 5) = false := by rw [hk]; rfl
 have g1p : (r.1 = 1) = False := eq_false (by omega)
 have g3p : (r.1 = 3) = False := eq_false (by omega)
 have g4p : (r.1 = 4) = False := eq_false (by omega)
 have g2p : (r.1 = 2) = True := eq_true hk
 have g5p : (r.1 = 5) = False := eq_false (by omega)
 have m1 : ((lowB r.2.1).toList == [116, 114, 117, 101]) = false := (lit_eq _ [116, 114, 117, 101]).trans (decide_eq_false n1)
 have m2 : ((lowB r.2.1).toList == [102, 97, 108, 115, 101]) = false := (lit_eq _ [102, 97, 108, 115, 101]).trans (decide_eq_false n2)
 have HK : Hid _ := hk
 clear hk n1 n2
 have hl1 : 1 ≤ l.length := by obtain ⟨q, l', rfl⟩ := mL_none hL; simp
 have HL := hZz hL
 have hg := h.lt
 have hbl := h.tr.1
 have HGr := hZz hGr
 have hsz := hGr.size
 obtain ⟨pre, pa, cg0, cg1, cg2, fg0, fg1, t0, t1, t2, hgW, hbW, hlen, hmost, hle, hne, HEQ, HBX, HTR⟩ := RS.facts (h)
 clear h hL hGr
 have hcp : ¬ cap - pre.length = 1 := by omega
 obtain ⟨KA, KB1, KB2, KR⟩ := prim_open HTR.out HEQ.out hne hle hmost HBX.out
 go_enter Tryd.func58, Tryd.ntmps58
 go_wp2_with fail
 refine (rlower_any r.2.1 (by omega) _).mono ?_
 rintro e W1 ⟨rfl, hb⟩
 have K1 : Hid (Kp g w W1) := KA.out.trans (Kp.of hb)
 have H1 : Hid (Bx W1 w.heap.size [vi ki 0, vS ⟨#[]⟩, vL none 0 0, vi ki 0]) := KB1.out.below hb
 have H2 : Hid (Bx W1 (w.heap.size + 1) [vi ki r.1, vS r.2.1, vi ki r.2.2]) := KB2.out.below hb
 have Q1 : Hid (RS g b cap T W1 l d) := KR.out.below hb
 clear hb KA KB1 KB2 KR hcp cg0 cg1 cg2 fg0 fg1 t0 t1 t2 hgW hbW hlen hmost hle HEQ HBX HTR hne
 have j0 := H2.out.c 0 rfl
 have j1 := H2.out.c 1 rfl
 have j2 := H2.out.c 2 rfl
 have hj := H2.out.1
 have hfr := mT_free HGr.out
 rw [hf, decide_eq_true HK.out, Bool.true_and] at hfr
 have hrs : rsvd (lowB (lowB r.2.1)) = true := by rw [lowB_lowB]; simpa using hfr.symm
 clear hfr hf
 have HRs := rreserved_any (lowB r.2.1) (by rw [lowB_size]; omega) W1
 rw [hrs] at HRs
 have HRv : Hid _ := HRs
 clear HRs hrs
 go_wp2_with fail
 refine Calls.mono HRv.out ?_
 rintro e W2 ⟨rfl, hb⟩
 have K2 : Hid (Kp g w W2) := K1.out.trans (Kp.of hb)
 have H3 : Hid (Bx W2 w.heap.size [vi ki 0, vS ⟨#[]⟩, vL none 0 0, vi ki 0]) := H1.out.below hb
 have H4 : Hid (Bx W2 (w.heap.size + 1) [vi ki r.1, vS r.2.1, vi ki r.2.2]) := H2.out.below hb
 have Q2 : Hid (RS g b cap T W2 l d) := Q1.out.below hb
 clear hb HRv K1 H1 H2 Q1 j0 j1 j2 hj m1 m2
 have j0 := H4.out.c 0 rfl
 have j1 := H4.out.c 1 rfl
 have j2 := H4.out.c 2 rfl
 have hj := H4.out.1
 obtain ⟨q, l0, hq⟩ := mL_none HL.out
 have hgq := (hq ▸ Q2.out).good hGT.out
 have HFl : Hid _ := rfail_ok g b (w.heap.size + 1) cap T l0 q hgq.size d (by omega) 30 r.2.2 W2 (hq ▸ Q2.out)
 clear hgq hq
 go_wp2_with fail
 refine Calls.mono HFl.out ?_
 rintro e W6 ⟨rfl, hk6, hf6⟩
 have K9 : Hid (Kp g w W6) := K2.out.trans hk6
 have H9 : Hid (Bx W6 w.heap.size [vi ki 0, vS ⟨#[]⟩, vL none 0 0, vi ki 0]) := hk6.bx H3.out (by omega)
 have HF6 := hZz hf6
 clear hk6 hf6 HFl
 obtain ⟨y0', y1', y2', y3', HFK, HFO, HFS, rr0, rr1, rr2, rr3, rf0, rf1, rf2, rf3, hrw'⟩ := fin9 (vi ki 0) (vS ⟨#[]⟩) (vL none 0 0) (vi ki 0) K9.out (Nat.le_refl _) (H9.out)
 go_wp2
 refine bodyPost_ret (v := .agg #[vi ki 0, vS ⟨#[]⟩, vL none 0 0, vi ki 0]) (by simp [results, Tryd.results58, go_sem, y0', y1', y2', y3']) rfl ⟨HFK.out, by decide, (HF6.out.off HFO.out HFS.out (by omega) (by omega) (by omega)).mono (by omega), _, _, _, _, _, _, rfl⟩
theorem rprim_1 (g b cap : Nat) (T : List Tk) (r : Tk) (l : List Tk) (d : Nat) (hd : d ≤ 20) (hk : r.1 = 1) (w : World) (h : RS g b cap T w (r :: l) d) (hGr : GoodT r) (hL : EndL (mL l)) :
  Calls Tryd.prog 58 #[.pointer (some ⟨g, 0, none⟩)] w fun e w' => Kp g w w' ∧ ROut g b w.heap.size cap T (fun c => w.heap.size ≤ c) w' d e (.ok (.mk (if r.2.1.data.toList.contains 46 then 2 else 1) r.2.1 [] r.2.2) (mL l)) := by
 obtain ⟨G, hG⟩ : ∃ G, (if r.2.1.data.toList.contains 46 then (2 : Int) else 1) = G := ⟨_, rfl⟩
 rw [hG]
 have HGG := hZz hG
 clear hG
 have g1 : (r.1 == 1) = true := by rw [hk]; rfl
 have g1p : (r.1 = 1) = True := eq_true hk
 have HK : Hid _ := hk
 clear hk
 have hl1 : 1 ≤ l.length := by obtain ⟨q, l', rfl⟩ := mL_none hL; simp
 have HL := hZz hL
 have hg := h.lt
 have hbl := h.tr.1
 have HGr := hZz hGr
 have hsz := hGr.size
 obtain ⟨pre, pa, cg0, cg1, cg2, fg0, fg1, t0, t1, t2, hgW, hbW, hlen, hmost, hle, hne, HEQ, HBX, HTR⟩ := RS.facts (h)
 clear h hL hGr
 have hcp : ¬ cap - pre.length = 1 := by omega
 obtain ⟨KA, KB1, KB2, KR⟩ := prim_open HTR.out HEQ.out hne hle hmost HBX.out
 go_enter Tryd.func58, Tryd.ntmps58
 go_wp2_with fail
 refine (rlower_any r.2.1 (by omega) _).mono ?_
 rintro e W1 ⟨rfl, hb⟩
 have K1 : Hid (Kp g w W1) := KA.out.trans (Kp.of hb)
 have H1 : Hid (Bx W1 w.heap.size [vi ki 0, vS ⟨#[]⟩, vL none 0 0, vi ki 0]) := KB1.out.below hb
 have H2 : Hid (Bx W1 (w.heap.size + 1) [vi ki r.1, vS r.2.1, vi ki r.2.2]) := KB2.out.below hb
 have Q1 : Hid (RS g b cap T W1 l d) := KR.out.below hb
 clear hb KA KB1 KB2 KR hcp cg0 cg1 cg2 fg0 fg1 t0 t1 t2 hgW hbW hlen hmost hle HEQ HBX HTR hne
 have j0 := H2.out.c 0 rfl
 have j1 := H2.out.c 1 rfl
 have j2 := H2.out.c 2 rfl
 have hj := H2.out.1
 obtain ⟨B, hB⟩ : ∃ B, B = W1.heap.size := ⟨_, rfl⟩
 have X0 := bsm1 W1 [vi ki 1, vS r.2.1, vL none 0 0, vi ki r.2.2] 30
 have X1 : Hid (Kp g w (W1.alloc (.cells #[vi ki 1, vS r.2.1, vL none 0 0, vi ki r.2.2] 30)) ∧ Bx (W1.alloc (.cells #[vi ki 1, vS r.2.1, vL none 0 0, vi ki r.2.2] 30)) w.heap.size [vi ki 0, vS ⟨#[]⟩, vL none 0 0, vi ki 0] ∧ Bx (W1.alloc (.cells #[vi ki 1, vS r.2.1, vL none 0 0, vi ki r.2.2] 30)) (w.heap.size + 1) [vi ki r.1, vS r.2.1, vi ki r.2.2] ∧ RS g b cap T (W1.alloc (.cells #[vi ki 1, vS r.2.1, vL none 0 0, vi ki r.2.2] 30)) l d ∧ Bx (W1.alloc (.cells #[vi ki 1, vS r.2.1, vL none 0 0, vi ki r.2.2] 30)) B [vi ki 1, vS r.2.1, vL none 0 0, vi ki r.2.2]) := ⟨K1.out.alloc _, H1.out.alloc _, H2.out.alloc _, Q1.out.below X0.out.1, by rw [hB]; exact X0.out.first⟩
 have hjB : w.heap.size + 1 < B := by omega
 clear X0 K1 H1 H2 Q1
 go_wp2_with fail
 rw [← hB]
 clear hB hj j0 j1 j2
 go_loopw [6] (fun v W => ∃ i : Nat, v = vi ki (i : Int) ∧ i ≤ r.2.1.size ∧ Hid (Kp g w W ∧ Bx W w.heap.size [vi ki 0, vS ⟨#[]⟩, vL none 0 0, vi ki 0] ∧ Bx W (w.heap.size + 1) [vi ki r.1, vS r.2.1, vi ki r.2.2] ∧ RS g b cap T W l d ∧ Bx W B [vi ki (if (r.2.1.data.toList.take i).contains 46 then (2 : Int) else 1), vS r.2.1, vL none 0 0, vi ki r.2.2])) (fun v _ => r.2.1.size - (intOf v).toNat)
 case atStart => exact ⟨0, rfl, Nat.zero_le _, X1.out⟩
 case round =>
  obtain ⟨i, rfl, hi, HX0⟩ := hrel
  clear X1
  have hi0 : (0 : Int) ≤ (i : Int) := by omega
  obtain ⟨v, hv⟩ : ∃ v, (if (r.2.1.data.toList.take i).contains 46 then (2 : Int) else 1) = v := ⟨_, rfl⟩
  rw [hv] at HX0
  have HV := hZz hv
  have HX := HX0
  clear hv HX0
  have j1 := HX.out.2.2.1.c 1 rfl
  have hj := HX.out.2.2.1.1
  by_cases hil : i < r.2.1.size
  ·have hiI : (i : Int) < (r.2.1.size : Int) := by omega
   have hiw : IntKind.i64.wrap ((i : Int) + 1) = (i : Int) + 1 := by rw [IntKind.wrap_i64]; omega
   have htk : r.2.1.data.toList.take (i + 1) = r.2.1.data.toList.take i ++ [r.2.1[i]'hil] := by rw [List.take_add_one, List.getElem?_eq_getElem (show i < r.2.1.data.toList.length by rw [Array.length_toList]; exact hil)]; rfl
   obtain ⟨c, hc⟩ : ∃ c, r.2.1[i]'hil = c := ⟨_, rfl⟩
   rw [hc] at htk
   have HT : Hid _ := htk
   clear htk
   by_cases h46 : c = 46
   ·have hb : ((r.2.1[i]'hil).toNat : Int) = 46 := by rw [hc, h46]; rfl
    have HN : Hid ((if (r.2.1.data.toList.take (i + 1)).contains 46 then (2 : Int) else 1) = 2) := by show _ = _; rw [HT.out, h46, if_pos (by simp)]
    have bf0 := HX.out.2.2.2.2.f 0 rfl
    have b0 := HX.out.2.2.2.2.c 0 rfl
    have hB := HX.out.2.2.2.2.1
    clear hc h46 HT
    go_wp2
    refine ⟨⟨i + 1, by simp, by omega, ?_⟩, by simp [intOf]; omega⟩
    rw [HN.out]
    exact ⟨HX.out.1.set (p := ⟨B, 0, none⟩) (.inr (by show _ ≤ B; omega)) _, HX.out.2.1.setOther (by omega) [_] 0, HX.out.2.2.1.setOther (by omega) [_] 0, HX.out.2.2.2.1.off (r := B) (fun k _ hk => Below.heap_setCell _ _ _ _ hk) (by simp) (by omega) (by omega), HX.out.2.2.2.2.set1 0 _ (by simp)⟩
   ·have hb : ((r.2.1[i]'hil).toNat : Int) = (c.toNat : Int) := by rw [hc]
    have gc : ((c.toNat : Int) == 46) = false := by simp; intro e; exact h46 (UInt8.toNat_inj.1 (by show c.toNat = 46; omega))
    have gcp : ((c.toNat : Int) = 46) = False := eq_false (by simpa using gc)
    have HN : Hid ((if (r.2.1.data.toList.take (i + 1)).contains 46 then (2 : Int) else 1) = v) := by show _ = _; rw [HT.out, ← HV.out]; congr 1; simp only [List.contains_eq_mem, List.mem_append, List.mem_singleton, eq_iff_iff, decide_eq_true_eq]; constructor; (rintro (h | h); exact h; exact absurd h.symm h46); exact Or.inl
    clear hc h46 HT
    go_wp2
    refine ⟨⟨i + 1, by simp, by omega, ?_⟩, by simp [intOf]; omega⟩
    rw [HN.out]
    exact HX.out
  ·obtain rfl : i = r.2.1.size := by omega
   have hiI : ¬ (r.2.1.size : Int) < (r.2.1.size : Int) := by omega
   have HN : Hid (G = v) := by show G = v; rw [← HGG.out]; have := HV.out; rw [show r.2.1.data.toList.take r.2.1.size = r.2.1.data.toList from List.take_of_length_le (by rw [Array.length_toList]; exact Nat.le_refl _)] at this; exact this
   obtain ⟨b0, b1, b2, b3⟩ := HX.out.2.2.2.2.d4
   have hB := HX.out.2.2.2.2.1
   obtain ⟨y0', y1', y2', y3', HFK, HFO, HFS, rr0, rr1, rr2, rr3, rf0, rf1, rf2, rf3, hrw'⟩ := fin9 (vi ki v) (vS r.2.1) (vL none 0 0) (vi ki r.2.2) HX.out.1 (Nat.le_refl _) (HX.out.2.1)
   go_wp2
   refine bodyPost_ret (v := .agg #[vi ki v, vS r.2.1, vL none 0 0, vi ki r.2.2]) (by simp [results, Tryd.results58, go_sem, y0', y1', y2', y3']) rfl ⟨HFK.out, by rw [HN.out]; exact ⟨l, rfl, HX.out.2.2.2.1.off HFO.out HFS.out (by omega) (by omega), HL.out, _, _, _, _, _, _, rfl, NdAt.leaf _ _ _ _ _⟩⟩
theorem rprim_end (g b cap : Nat) (T : List Tk) (r : Tk) (d : Nat) (hd : d ≤ 20) (hk : r.1 = 5) (w : World) (h : RS g b cap T w [r] d) (hGr : GoodT r) :
  Calls Tryd.prog 58 #[.pointer (some ⟨g, 0, none⟩)] w fun e w' => Kp g w w' ∧ ROut g b w.heap.size cap T (fun c => w.heap.size ≤ c) w' d e (.no r.2.2 30) := by
 have g1 : (r.1 == 1) = false := by rw [hk]; rfl
 have g3 : (r.1 == 3) = false := by rw [hk]; rfl
 have g4 : (r.1 == 4) = false := by rw [hk]; rfl
 have g2 : (r.1 == 2) = false := by rw [hk]; rfl
 have g5 : (r.1 == 5) = true := by rw [hk]; rfl
 have g1p : (r.1 = 1) = False := eq_false (by omega)
 have g3p : (r.1 = 3) = False := eq_false (by omega)
 have g4p : (r.1 = 4) = False := eq_false (by omega)
 have g2p : (r.1 = 2) = False := eq_false (by omega)
 have g5p : (r.1 = 5) = True := eq_true hk
 clear hk
 have l : List Tk := []
 have hg := h.lt
 have hbl := h.tr.1
 have hsz := hGr.size
 have HGr := hZz hGr
 obtain ⟨pre, pa, cg0, cg1, cg2, fg0, fg1, t0, t1, t2, hgW, hbW, hlen, hmost, hle, hne, HEQ, HBX, HTR⟩ := RS.facts (h)
 clear h hGr
 go_enter Tryd.func58, Tryd.ntmps58
 by_cases hcp : cap - pre.length = 1
 ·have KA : Hid (Kp g w ((((w.setCell ⟨g, 0, none⟩ (vL (some ⟨b, pre.length * 3, none⟩) 0 0))).alloc (.cells #[vi ki 0, vS ⟨#[]⟩, vL none 0 0, vi ki 0] 30)).alloc (.cells #[vi ki r.1, vS r.2.1, vi ki r.2.2] 59))) := (((Kp.refl g w).set (p := ⟨g, 0, none⟩) (.inl rfl) _).alloc _).alloc _
  have KB1 : Hid (Bx ((((w.setCell ⟨g, 0, none⟩ (vL (some ⟨b, pre.length * 3, none⟩) 0 0))).alloc (.cells #[vi ki 0, vS ⟨#[]⟩, vL none 0 0, vi ki 0] 30)).alloc (.cells #[vi ki r.1, vS r.2.1, vi ki r.2.2] 59)) w.heap.size [vi ki 0, vS ⟨#[]⟩, vL none 0 0, vi ki 0]) := by have q := Bx.new (w.setCell ⟨g, 0, none⟩ (vL (some ⟨b, pre.length * 3, none⟩) 0 0)) [vi ki 0, vS ⟨#[]⟩, vL none 0 0, vi ki 0] 30; rw [show (w.setCell ⟨g, 0, none⟩ (vL (some ⟨b, pre.length * 3, none⟩) 0 0)).heap.size = w.heap.size by simp] at q; exact q.alloc _
  have KB2 : Hid (Bx ((((w.setCell ⟨g, 0, none⟩ (vL (some ⟨b, pre.length * 3, none⟩) 0 0))).alloc (.cells #[vi ki 0, vS ⟨#[]⟩, vL none 0 0, vi ki 0] 30)).alloc (.cells #[vi ki r.1, vS r.2.1, vi ki r.2.2] 59)) (w.heap.size + 1) [vi ki r.1, vS r.2.1, vi ki r.2.2]) := by have q := Bx.new ((w.setCell ⟨g, 0, none⟩ (vL (some ⟨b, pre.length * 3, none⟩) 0 0)).alloc (.cells #[vi ki 0, vS ⟨#[]⟩, vL none 0 0, vi ki 0] 30)) [vi ki r.1, vS r.2.1, vi ki r.2.2] 59; rw [show ((w.setCell ⟨g, 0, none⟩ (vL (some ⟨b, pre.length * 3, none⟩) 0 0)).alloc (.cells #[vi ki 0, vS ⟨#[]⟩, vL none 0 0, vi ki 0] 30)).heap.size = w.heap.size + 1 by simp] at q; exact q
  have KG : Hid (Bx ((((w.setCell ⟨g, 0, none⟩ (vL (some ⟨b, pre.length * 3, none⟩) 0 0))).alloc (.cells #[vi ki 0, vS ⟨#[]⟩, vL none 0 0, vi ki 0] 30)).alloc (.cells #[vi ki r.1, vS r.2.1, vi ki r.2.2] 59)) g [vL (some ⟨b, pre.length * 3, none⟩) 0 0, vi ki (d : Int), vi ki 0, vi ki pa]) := (((HBX.out).set1 0 _ (by simp)).alloc _).alloc _
  go_wp2_with fail
  refine (rlower_any r.2.1 (by omega) _).mono ?_
  rintro e W1 ⟨rfl, hb⟩
  have K1 : Hid (Kp g w W1) := KA.out.trans (Kp.of hb)
  have H1 : Hid (Bx W1 w.heap.size [vi ki 0, vS ⟨#[]⟩, vL none 0 0, vi ki 0]) := KB1.out.below hb
  have H2 : Hid (Bx W1 (w.heap.size + 1) [vi ki r.1, vS r.2.1, vi ki r.2.2]) := KB2.out.below hb
  have G1 : Hid (Bx W1 g [vL (some ⟨b, pre.length * 3, none⟩) 0 0, vi ki (d : Int), vi ki 0, vi ki pa]) := KG.out.below hb
  have hm1 : cap ≤ maxLen := by unfold maxLen; omega
  clear hb KA KB1 KB2 KG cg0 cg1 cg2 fg0 fg1 t0 t1 t2 hgW hbW HEQ HBX HTR
  have j0 := H2.out.c 0 rfl
  have j1 := H2.out.c 1 rfl
  have j2 := H2.out.c 2 rfl
  have hj := H2.out.1
  have cg0 := G1.out.c 0 rfl
  have fg0 := G1.out.f 0 rfl
  have hg1 := G1.out.1
  have X0 := bsm1 W1 [vi ki r.1, vS r.2.1, vi ki r.2.2] 59
  have X1 : Hid (Bx ((W1.setCell ⟨g, 0, none⟩ (vL (some ⟨W1.heap.size, 0, none⟩) 1 1)).alloc (.cells #[vi ki r.1, vS r.2.1, vi ki r.2.2] 59)) g [vL (some ⟨W1.heap.size, 0, none⟩) 1 1, vi ki (d : Int), vi ki 0, vi ki pa]) := (G1.out.set1 0 _ (by simp)).alloc _
  have X2 : Hid (Kp g w ((W1.setCell ⟨g, 0, none⟩ (vL (some ⟨W1.heap.size, 0, none⟩) 1 1)).alloc (.cells #[vi ki r.1, vS r.2.1, vi ki r.2.2] 59))) := (K1.out.set (p := ⟨g, 0, none⟩) (.inl rfl) _).alloc _
  have X3 : Hid (Bx ((W1.setCell ⟨g, 0, none⟩ (vL (some ⟨W1.heap.size, 0, none⟩) 1 1)).alloc (.cells #[vi ki r.1, vS r.2.1, vi ki r.2.2] 59)) w.heap.size [vi ki 0, vS ⟨#[]⟩, vL none 0 0, vi ki 0]) := (((Kp.refl g W1).set (p := ⟨g, 0, none⟩) (.inl rfl) _).bx H1.out (by omega)).alloc _
  have X4 : Hid (Bx ((W1.setCell ⟨g, 0, none⟩ (vL (some ⟨W1.heap.size, 0, none⟩) 1 1)).alloc (.cells #[vi ki r.1, vS r.2.1, vi ki r.2.2] 59)) W1.heap.size [vi ki r.1, vS r.2.1, vi ki r.2.2]) := by have q := Bx.new (W1.setCell ⟨g, 0, none⟩ (vL (some ⟨W1.heap.size, 0, none⟩) 1 1)) [vi ki r.1, vS r.2.1, vi ki r.2.2] 59; rw [show (W1.setCell ⟨g, 0, none⟩ (vL (some ⟨W1.heap.size, 0, none⟩) 1 1)).heap.size = W1.heap.size by simp] at q; exact q
  have hw1 : w.heap.size + 1 < W1.heap.size := hj
  go_wp2_with fail
  refine (rfail_raw g _ _ 30 pa r.2.2 _ X1.out).mono ?_
  rintro e W2 ⟨rfl, hk2, hb2⟩
  have K2 : Hid (Kp g w W2) := X2.out.trans hk2
  have H3 : Hid (Bx W2 w.heap.size [vi ki 0, vS ⟨#[]⟩, vL none 0 0, vi ki 0]) := hk2.bx X3.out (by omega)
  have H4 : Hid (Bx W2 W1.heap.size [vi ki r.1, vS r.2.1, vi ki r.2.2]) := hk2.bx X4.out (by omega)
  have HF : Hid (RF g b (w.heap.size + 1) W2 r.2.2 30) := ⟨W1.heap.size, 0, 1, 1, d, r.1, r.2.2, r.2.1, .inr (by omega), hb2, Nat.le_refl _, Nat.le_refl _, by unfold maxLen; omega, by omega, H4.out.1, hsz, trivial, H4.out.c 0 rfl, H4.out.c 1 rfl, H4.out.c 2 rfl⟩
  clear hk2 hb2 X0 X1 X2 X3 X4 K1 H1 H2 G1 j0 j1 j2 hj cg0 fg0 hg1 H4
  obtain ⟨y0', y1', y2', y3', HFK, HFO, HFS, rr0, rr1, rr2, rr3, rf0, rf1, rf2, rf3, hrw'⟩ := fin9 (vi ki 0) (vS ⟨#[]⟩) (vL none 0 0) (vi ki 0) K2.out (Nat.le_refl _) (H3.out)
  go_wp2
  refine bodyPost_ret (v := .agg #[vi ki 0, vS ⟨#[]⟩, vL none 0 0, vi ki 0]) (by simp [results, Tryd.results58, go_sem, y0', y1', y2', y3']) rfl ⟨HFK.out, by decide, (HF.out.off HFO.out HFS.out (by omega) (by omega) (by omega)).mono (by omega), _, _, _, _, _, _, rfl⟩
 ·have KA : Hid (Kp g w ((((w.setCell ⟨g, 0, none⟩ (vL (some ⟨b, pre.length * 3 + 3, none⟩) 0 (cap - pre.length - 1)))).alloc (.cells #[vi ki 0, vS ⟨#[]⟩, vL none 0 0, vi ki 0] 30)).alloc (.cells #[vi ki r.1, vS r.2.1, vi ki r.2.2] 59))) := (((Kp.refl g w).set (p := ⟨g, 0, none⟩) (.inl rfl) _).alloc _).alloc _
  have KB1 : Hid (Bx ((((w.setCell ⟨g, 0, none⟩ (vL (some ⟨b, pre.length * 3 + 3, none⟩) 0 (cap - pre.length - 1)))).alloc (.cells #[vi ki 0, vS ⟨#[]⟩, vL none 0 0, vi ki 0] 30)).alloc (.cells #[vi ki r.1, vS r.2.1, vi ki r.2.2] 59)) w.heap.size [vi ki 0, vS ⟨#[]⟩, vL none 0 0, vi ki 0]) := by have q := Bx.new (w.setCell ⟨g, 0, none⟩ (vL (some ⟨b, pre.length * 3 + 3, none⟩) 0 (cap - pre.length - 1))) [vi ki 0, vS ⟨#[]⟩, vL none 0 0, vi ki 0] 30; rw [show (w.setCell ⟨g, 0, none⟩ (vL (some ⟨b, pre.length * 3 + 3, none⟩) 0 (cap - pre.length - 1))).heap.size = w.heap.size by simp] at q; exact q.alloc _
  have KB2 : Hid (Bx ((((w.setCell ⟨g, 0, none⟩ (vL (some ⟨b, pre.length * 3 + 3, none⟩) 0 (cap - pre.length - 1)))).alloc (.cells #[vi ki 0, vS ⟨#[]⟩, vL none 0 0, vi ki 0] 30)).alloc (.cells #[vi ki r.1, vS r.2.1, vi ki r.2.2] 59)) (w.heap.size + 1) [vi ki r.1, vS r.2.1, vi ki r.2.2]) := by have q := Bx.new ((w.setCell ⟨g, 0, none⟩ (vL (some ⟨b, pre.length * 3 + 3, none⟩) 0 (cap - pre.length - 1))).alloc (.cells #[vi ki 0, vS ⟨#[]⟩, vL none 0 0, vi ki 0] 30)) [vi ki r.1, vS r.2.1, vi ki r.2.2] 59; rw [show ((w.setCell ⟨g, 0, none⟩ (vL (some ⟨b, pre.length * 3 + 3, none⟩) 0 (cap - pre.length - 1))).alloc (.cells #[vi ki 0, vS ⟨#[]⟩, vL none 0 0, vi ki 0] 30)).heap.size = w.heap.size + 1 by simp] at q; exact q
  have KG : Hid (Bx ((((w.setCell ⟨g, 0, none⟩ (vL (some ⟨b, pre.length * 3 + 3, none⟩) 0 (cap - pre.length - 1)))).alloc (.cells #[vi ki 0, vS ⟨#[]⟩, vL none 0 0, vi ki 0] 30)).alloc (.cells #[vi ki r.1, vS r.2.1, vi ki r.2.2] 59)) g [vL (some ⟨b, pre.length * 3 + 3, none⟩) 0 (cap - pre.length - 1), vi ki (d : Int), vi ki 0, vi ki pa]) := (((HBX.out).set1 0 _ (by simp)).alloc _).alloc _
  go_wp2_with fail
  refine (rlower_any r.2.1 (by omega) _).mono ?_
  rintro e W1 ⟨rfl, hb⟩
  have K1 : Hid (Kp g w W1) := KA.out.trans (Kp.of hb)
  have H1 : Hid (Bx W1 w.heap.size [vi ki 0, vS ⟨#[]⟩, vL none 0 0, vi ki 0]) := KB1.out.below hb
  have H2 : Hid (Bx W1 (w.heap.size + 1) [vi ki r.1, vS r.2.1, vi ki r.2.2]) := KB2.out.below hb
  have G1 : Hid (Bx W1 g [vL (some ⟨b, pre.length * 3 + 3, none⟩) 0 (cap - pre.length - 1), vi ki (d : Int), vi ki 0, vi ki pa]) := KG.out.below hb
  have hm1 : cap ≤ maxLen := by unfold maxLen; omega
  clear hb KA KB1 KB2 KG cg0 cg1 cg2 fg0 fg1 t0 t1 t2 hgW hbW HEQ HBX HTR
  have j0 := H2.out.c 0 rfl
  have j1 := H2.out.c 1 rfl
  have j2 := H2.out.c 2 rfl
  have hj := H2.out.1
  have cg0 := G1.out.c 0 rfl
  have fg0 := G1.out.f 0 rfl
  have hg1 := G1.out.1
  have X0 := bsm1 W1 [vi ki r.1, vS r.2.1, vi ki r.2.2] 59
  have X1 : Hid (Bx ((W1.setCell ⟨g, 0, none⟩ (vL (some ⟨W1.heap.size, 0, none⟩) 1 1)).alloc (.cells #[vi ki r.1, vS r.2.1, vi ki r.2.2] 59)) g [vL (some ⟨W1.heap.size, 0, none⟩) 1 1, vi ki (d : Int), vi ki 0, vi ki pa]) := (G1.out.set1 0 _ (by simp)).alloc _
  have X2 : Hid (Kp g w ((W1.setCell ⟨g, 0, none⟩ (vL (some ⟨W1.heap.size, 0, none⟩) 1 1)).alloc (.cells #[vi ki r.1, vS r.2.1, vi ki r.2.2] 59))) := (K1.out.set (p := ⟨g, 0, none⟩) (.inl rfl) _).alloc _
  have X3 : Hid (Bx ((W1.setCell ⟨g, 0, none⟩ (vL (some ⟨W1.heap.size, 0, none⟩) 1 1)).alloc (.cells #[vi ki r.1, vS r.2.1, vi ki r.2.2] 59)) w.heap.size [vi ki 0, vS ⟨#[]⟩, vL none 0 0, vi ki 0]) := (((Kp.refl g W1).set (p := ⟨g, 0, none⟩) (.inl rfl) _).bx H1.out (by omega)).alloc _
  have X4 : Hid (Bx ((W1.setCell ⟨g, 0, none⟩ (vL (some ⟨W1.heap.size, 0, none⟩) 1 1)).alloc (.cells #[vi ki r.1, vS r.2.1, vi ki r.2.2] 59)) W1.heap.size [vi ki r.1, vS r.2.1, vi ki r.2.2]) := by have q := Bx.new (W1.setCell ⟨g, 0, none⟩ (vL (some ⟨W1.heap.size, 0, none⟩) 1 1)) [vi ki r.1, vS r.2.1, vi ki r.2.2] 59; rw [show (W1.setCell ⟨g, 0, none⟩ (vL (some ⟨W1.heap.size, 0, none⟩) 1 1)).heap.size = W1.heap.size by simp] at q; exact q
  have hw1 : w.heap.size + 1 < W1.heap.size := hj
  go_wp2_with fail
  refine (rfail_raw g _ _ 30 pa r.2.2 _ X1.out).mono ?_
  rintro e W2 ⟨rfl, hk2, hb2⟩
  have K2 : Hid (Kp g w W2) := X2.out.trans hk2
  have H3 : Hid (Bx W2 w.heap.size [vi ki 0, vS ⟨#[]⟩, vL none 0 0, vi ki 0]) := hk2.bx X3.out (by omega)
  have H4 : Hid (Bx W2 W1.heap.size [vi ki r.1, vS r.2.1, vi ki r.2.2]) := hk2.bx X4.out (by omega)
  have HF : Hid (RF g b (w.heap.size + 1) W2 r.2.2 30) := ⟨W1.heap.size, 0, 1, 1, d, r.1, r.2.2, r.2.1, .inr (by omega), hb2, Nat.le_refl _, Nat.le_refl _, by unfold maxLen; omega, by omega, H4.out.1, hsz, trivial, H4.out.c 0 rfl, H4.out.c 1 rfl, H4.out.c 2 rfl⟩
  clear hk2 hb2 X0 X1 X2 X3 X4 K1 H1 H2 G1 j0 j1 j2 hj cg0 fg0 hg1 H4
  obtain ⟨y0', y1', y2', y3', HFK, HFO, HFS, rr0, rr1, rr2, rr3, rf0, rf1, rf2, rf3, hrw'⟩ := fin9 (vi ki 0) (vS ⟨#[]⟩) (vL none 0 0) (vi ki 0) K2.out (Nat.le_refl _) (H3.out)
  go_wp2
  refine bodyPost_ret (v := .agg #[vi ki 0, vS ⟨#[]⟩, vL none 0 0, vi ki 0]) (by simp [results, Tryd.results58, go_sem, y0', y1', y2', y3']) rfl ⟨HFK.out, by decide, (HF.out.off HFO.out HFS.out (by omega) (by omega) (by omega)).mono (by omega), _, _, _, _, _, _, rfl⟩
theorem rprim_deep (g b cap : Nat) (T : List Tk) (r : Tk) (l : List Tk) (d : Nat) (hd : d ≤ 20) (hGT : Hid (∀ x ∈ T, GoodT x)) (hk : r.1 = 4) (hw : r.2.1 = b1 40) (hd20 : d = 20) (w : World) (h : RS g b cap T w (r :: l) d) (hGr : GoodT r) (hL : EndL (mL l)) :
  Calls Tryd.prog 58 #[.pointer (some ⟨g, 0, none⟩)] w fun e w' => Kp g w w' ∧ ROut g b w.heap.size cap T (fun c => w.heap.size ≤ c) w' d e (.no r.2.2 31) := by
 have g1 : (r.1 == 1) = false := by rw [hk]; rfl
 have g3 : (r.1 == 3) = false := by rw [hk]; rfl
 have g4 : (r.1 == 4) = true := by rw [hk]; rfl
 have g1p : (r.1 = 1) = False := eq_false (by omega)
 have g3p : (r.1 = 3) = False := eq_false (by omega)
 have g4p : (r.1 = 4) = True := eq_true hk
 have m1 : (r.2.1.toList == [40]) = true := (lit_eq _ [40]).trans (decide_eq_true hw)
 have HK : Hid _ := hk
 clear hk hw
 have hl1 : 1 ≤ l.length := by obtain ⟨q, l', rfl⟩ := mL_none hL; simp
 have HL := hZz hL
 have hg := h.lt
 have hbl := h.tr.1
 have HGr := hZz hGr
 have hsz := hGr.size
 obtain ⟨pre, pa, cg0, cg1, cg2, fg0, fg1, t0, t1, t2, hgW, hbW, hlen, hmost, hle, hne, HEQ, HBX, HTR⟩ := RS.facts (h)
 clear h hL hGr
 have hcp : ¬ cap - pre.length = 1 := by omega
 obtain ⟨KA, KB1, KB2, KR⟩ := prim_open HTR.out HEQ.out hne hle hmost HBX.out
 go_enter Tryd.func58, Tryd.ntmps58
 go_wp2_with fail
 refine (rlower_any r.2.1 (by omega) _).mono ?_
 rintro e W1 ⟨rfl, hb⟩
 have K1 : Hid (Kp g w W1) := KA.out.trans (Kp.of hb)
 have H1 : Hid (Bx W1 w.heap.size [vi ki 0, vS ⟨#[]⟩, vL none 0 0, vi ki 0]) := KB1.out.below hb
 have H2 : Hid (Bx W1 (w.heap.size + 1) [vi ki r.1, vS r.2.1, vi ki r.2.2]) := KB2.out.below hb
 have Q1 : Hid (RS g b cap T W1 l d) := KR.out.below hb
 clear hb KA KB1 KB2 KR hcp cg0 cg1 cg2 fg0 fg1 t0 t1 t2 hgW hbW hlen hmost hle HEQ HBX HTR hne
 have j0 := H2.out.c 0 rfl
 have j1 := H2.out.c 1 rfl
 have j2 := H2.out.c 2 rfl
 have hj := H2.out.1
 subst hd20
 obtain ⟨q, l0, hq⟩ := mL_none HL.out
 have hgq := (hq ▸ Q1.out).good hGT.out
 have HIn : Hid _ := rinner_no g b (w.heap.size + 1) cap T l0 q hgq.size r.2.2 W1 (hq ▸ Q1.out)
 clear hgq hq
 go_wp2_with fail
 refine Calls.mono HIn.out ?_
 rintro e W6 ⟨rfl, hk6, hf6⟩
 have K9 : Hid (Kp g w W6) := K1.out.trans hk6
 have H9 : Hid (Bx W6 w.heap.size [vi ki 0, vS ⟨#[]⟩, vL none 0 0, vi ki 0]) := hk6.bx H1.out (by omega)
 have HF6 := hZz hf6
 clear hk6 hf6 HIn
 obtain ⟨y0', y1', y2', y3', HFK, HFO, HFS, rr0, rr1, rr2, rr3, rf0, rf1, rf2, rf3, hrw'⟩ := fin9 (vi ki 0) (vS ⟨#[]⟩) (vL none 0 0) (vi ki 0) K9.out (Nat.le_refl _) (H9.out)
 go_wp2
 refine bodyPost_ret (v := .agg #[vi ki 0, vS ⟨#[]⟩, vL none 0 0, vi ki 0]) (by simp [results, Tryd.results58, go_sem, y0', y1', y2', y3']) rfl ⟨HFK.out, by decide, (HF6.out.off HFO.out HFS.out (by omega) (by omega) (by omega)).mono (by omega), _, _, _, _, _, _, rfl⟩
theorem rdeep_bad {g b lo B C : Nat} {w W : World} {a e x : Int} {cs ds : List Value} (hg : g < w.heap.size) (hk : Kp g w W) (hr : Bx W B cs) (hB : B ≠ g) (hf : RF g b lo W a e) (hC : Bx W C ds) (hCg : C ≠ g) :
  Kp g w (W.setCell ⟨g, 1, none⟩ (vi ki x)) ∧ Bx (W.setCell ⟨g, 1, none⟩ (vi ki x)) B cs ∧ RF g b lo (W.setCell ⟨g, 1, none⟩ (vi ki x)) a e ∧ Bx (W.setCell ⟨g, 1, none⟩ (vi ki x)) C ds := by
 obtain ⟨c9, o9, n9, m9, D9, i9, z9, t9, hc9, hb9, e1, e2, e3, e4, e5, e6, -, e7, e8, e10⟩ := hf
 refine ⟨hk.set (p := ⟨g, 1, none⟩) (.inl rfl) _, ((Kp.refl g W).set (p := ⟨g, 1, none⟩) (.inl rfl) _).bx hr hB, ?_, ((Kp.refl g W).set (p := ⟨g, 1, none⟩) (.inl rfl) _).bx hC hCg⟩
 exact ⟨c9, o9, n9, m9, x, i9, z9, t9, hc9, hb9.set1 1 _ (by simp), e1, e2, e3, e4, by simpa using e5, e6, trivial, (World.cell?_setCell_other _ _ _ _ (fun q => e4 (congrArg Addr.block q).symm)).trans e7, (World.cell?_setCell_other _ _ _ _ (fun q => e4 (congrArg Addr.block q).symm)).trans e8, (World.cell?_setCell_other _ _ _ _ (fun q => e4 (congrArg Addr.block q).symm)).trans e10⟩
theorem rdeep_ok {g b cap B C d x' : Nat} {T L : List Tk} {w W : World} {cs ds es : List Value} {X : Nat → Prop} {n : Nd} (hg : g < w.heap.size) (hk : Kp g w W) (hr : Bx W B cs) (hB : B ≠ g) (hs : RS g b cap T W L d) (hC : Bx W C ds) (hCg : C ≠ g) (hn : NdAt X W n es) (hX : ∀ c, X c → c ≠ g) :
  Kp g w (W.setCell ⟨g, 1, none⟩ (vi ki (x' : Int))) ∧ Bx (W.setCell ⟨g, 1, none⟩ (vi ki (x' : Int))) B cs ∧ RS g b cap T (W.setCell ⟨g, 1, none⟩ (vi ki (x' : Int))) L x' ∧ Bx (W.setCell ⟨g, 1, none⟩ (vi ki (x' : Int))) C ds ∧ NdAt X (W.setCell ⟨g, 1, none⟩ (vi ki (x' : Int))) n es := by
 obtain ⟨⟨pre4, pa4, he4, hb4⟩, htr4, hne4, hle4, hmost4⟩ := hs
 exact ⟨hk.set (p := ⟨g, 1, none⟩) (.inl rfl) _, ((Kp.refl g W).set (p := ⟨g, 1, none⟩) (.inl rfl) _).bx hr hB, RS.of htr4 he4 hne4 hle4 hmost4 ((Kp.refl g W).set (p := ⟨g, 1, none⟩) (.inl rfl) _) (hb4.set1 1 _ (by simp)), ((Kp.refl g W).set (p := ⟨g, 1, none⟩) (.inl rfl) _).bx hC hCg, hn.kp ((Kp.refl g W).set (p := ⟨g, 1, none⟩) (.inl rfl) _) (fun c hc => ⟨hc, hX c hc⟩)⟩
theorem rprim_par (g b cap : Nat) (T : List Tk) (r : Tk) (l : List Tk) (d : Nat) (hd : d ≤ 20) (hGT : Hid (∀ x ∈ T, GoodT x)) (hk : r.1 = 4) (hw : r.2.1 = b1 40) (hd20 : d < 20) (N f : Nat) (HP : RLv g b cap T 0 N) (hN : l.length ≤ N) (hff : need (.lv 0) (mL l) ≤ f) (w : World) (h : RS g b cap T w (r :: l) d) (hGr : GoodT r) (hL : EndL (mL l)) :
  Calls Tryd.prog 58 #[.pointer (some ⟨g, 0, none⟩)] w fun e w' => Kp g w w' ∧ ROut g b w.heap.size cap T (fun c => w.heap.size ≤ c) w' d e ((match par f (.lv 0) (d + 1) (mL l) with | .no a e => PR.no a e | .ok n [] => PR.no 0 0 | .ok n (q :: l1) => if isT q [(5, b1 41)] then PR.ok n l1 else PR.no q.2.2 30)) := by
 obtain ⟨R, hR⟩ : ∃ R, (match par f (.lv 0) (d + 1) (mL l) with | .no a e => PR.no a e | .ok n [] => PR.no 0 0 | .ok n (q :: l1) => if isT q [(5, b1 41)] then PR.ok n l1 else PR.no q.2.2 30) = R := ⟨_, rfl⟩
 rw [hR]
 have HRR : Hid ((match par f (.lv 0) (d + 1) (mL l) with | .no a e => PR.no a e | .ok n [] => PR.no 0 0 | .ok n (q :: l1) => if isT q [(5, b1 41)] then PR.ok n l1 else PR.no q.2.2 30) = R) := hR
 clear hR
 have g1 : (r.1 == 1) = false := by rw [hk]; rfl
 have g3 : (r.1 == 3) = false := by rw [hk]; rfl
 have g4 : (r.1 == 4) = true := by rw [hk]; rfl
 have g1p : (r.1 = 1) = False := eq_false (by omega)
 have g3p : (r.1 = 3) = False := eq_false (by omega)
 have g4p : (r.1 = 4) = True := eq_true hk
 have m1 : (r.2.1.toList == [40]) = true := (lit_eq _ [40]).trans (decide_eq_true hw)
 have HK : Hid _ := hk
 clear hk hw
 have hl1 : 1 ≤ l.length := by obtain ⟨q, l', rfl⟩ := mL_none hL; simp
 have HL : Hid (EndL (mL l)) := hL
 have hg := h.lt
 have hbl := h.tr.1
 have HGr : Hid (GoodT r) := hGr
 have hsz := hGr.size
 obtain ⟨pre, pa, cg0, cg1, cg2, fg0, fg1, t0, t1, t2, hgW, hbW, hlen, hmost, hle, hne, HEQ, HBX, HTR⟩ := RS.facts (h)
 clear h hL hGr
 have hcp : ¬ cap - pre.length = 1 := by omega
 obtain ⟨KA, KB1, KB2, KR⟩ := prim_open HTR.out HEQ.out hne hle hmost HBX.out
 go_enter Tryd.func58, Tryd.ntmps58
 go_wp2_with fail
 refine (rlower_any r.2.1 (by omega) _).mono ?_
 rintro e W1 ⟨rfl, hb⟩
 have K1 : Hid (Kp g w W1) := KA.out.trans (Kp.of hb)
 have H1 : Hid (Bx W1 w.heap.size [vi ki 0, vS ⟨#[]⟩, vL none 0 0, vi ki 0]) := KB1.out.below hb
 have H2 : Hid (Bx W1 (w.heap.size + 1) [vi ki r.1, vS r.2.1, vi ki r.2.2]) := KB2.out.below hb
 have Q1 : Hid (RS g b cap T W1 l d) := KR.out.below hb
 clear hb KA KB1 KB2 KR hcp cg0 cg1 cg2 fg0 fg1 t0 t1 t2 hgW hbW hlen hmost hle HEQ HBX HTR hne
 have j0 := H2.out.c 0 rfl
 have j1 := H2.out.c 1 rfl
 have j2 := H2.out.c 2 rfl
 have hj := H2.out.1
 have hdI : (d : Int) < 20 := by omega
 obtain ⟨q, l0, hq⟩ := mL_none HL.out
 have hgq := (hq ▸ Q1.out).good hGT.out
 have HIn : Hid _ := rinner_ok g b cap T l0 q d hd20 r.2.2 W1 (hq ▸ Q1.out)
 go_wp2_with fail
 refine Calls.mono HIn.out ?_
 rintro e W2 ⟨rfl, hk2, hr2⟩
 have K2 : Hid (Kp g w W2) := K1.out.trans hk2
 have H2' : Hid (Bx W2 w.heap.size [vi ki 0, vS ⟨#[]⟩, vL none 0 0, vi ki 0]) := hk2.bx H1.out (by omega)
 have Q2 : Hid (RS g b cap T W2 l (d + 1)) := by have := hr2; rw [← hq] at this; exact this
 have hw2 : w.heap.size + 1 < W2.heap.size := by have := hk2.size; omega
 clear hk2 hr2 HIn K1 H1 H2 Q1 j0 j1 j2 hj hq hgq
 have HC := HP W2 l (d + 1) f Q2.out HL.out (by omega) hN hff
 cases hr : par f (.lv 0) (d + 1) (mL l) with
 | no ea er =>
  rw [hr] at HC
  have HR9 : Hid (R = .no ea er) := by have := HRR.out; rw [hr] at this; exact this.symm
  have HCC : Hid _ := HC
  clear HC hr HP HRR
  go_wp2_with fail
  refine Calls.mono HCC.out ?_
  rintro e W3 ⟨hk3, her, hf3, k9, u9, sq9, sn9, sc9, a9, rfl⟩
  have HER : Hid (er ≠ 0) := her
  have X9 := bsm1 W3 [vi ki k9, vS u9, vL sq9 sn9 sc9, vi ki a9] 30
  have K3 : Hid (Kp g w (W3.alloc (.cells #[vi ki k9, vS u9, vL sq9 sn9 sc9, vi ki a9] 30))) := (K2.out.trans hk3).alloc _
  have H3 : Hid (Bx (W3.alloc (.cells #[vi ki k9, vS u9, vL sq9 sn9 sc9, vi ki a9] 30)) w.heap.size [vi ki 0, vS ⟨#[]⟩, vL none 0 0, vi ki 0]) := (hk3.bx H2'.out (by omega)).alloc _
  have hw3 : W2.heap.size ≤ W3.heap.size := hk3.size
  have hg3 : g < W3.heap.size := by omega
  have hg3n : W3.heap.size ≠ g := by omega
  have F3 : Hid (RF g b W2.heap.size (W3.alloc (.cells #[vi ki k9, vS u9, vL sq9 sn9 sc9, vi ki a9] 30)) ea er) := hf3.below X9.out.1
  have HWa : Hid _ := rwant_bad g b W2.heap.size (b1 41) ea er her _ F3.out
  clear hk3 her hf3 HCC K2 H2' Q2
  go_wp2_with fail
  refine Calls.mono HWa.out ?_
  rintro e W4 ⟨rfl, hk4, hf4⟩
  have K4 : Hid (Kp g w W4) := K3.out.trans hk4
  have H4 : Hid (Bx W4 w.heap.size [vi ki 0, vS ⟨#[]⟩, vL none 0 0, vi ki 0]) := hk4.bx H3.out (by omega)
  have T4 : Hid (Bx W4 W3.heap.size [vi ki k9, vS u9, vL sq9 sn9 sc9, vi ki a9]) := hk4.bx X9.out.first (by omega)
  obtain ⟨j0, j1, j2, j3⟩ := T4.out.d4
  have hj := T4.out.1
  have F4 : Hid (RF g b (w.heap.size + 1) W4 ea er) := RF.mono hf4 (by omega)
  clear hk4 hf4 HWa K3 H3 F3 X9
  obtain ⟨c9, o9, n9, m9, D9, i9, z9, t9, hc9, hb9, -⟩ := F4.out
  have cg1 := hb9.c 1 rfl
  have fg1 := hb9.f 1 rfl
  have hgl := hb9.1
  clear hb9 hc9
  go_upto_region 22 with fail
  refine gen_to (fun V => Kp g w V ∧ Bx V w.heap.size [vi ki 0, vS ⟨#[]⟩, vL none 0 0, vi ki 0] ∧ RF g b (w.heap.size + 1) V ea er ∧ Bx V W3.heap.size [vi ki k9, vS u9, vL sq9 sn9 sc9, vi ki a9]) (rdeep_bad hg K4.out H4.out (by omega) F4.out T4.out hg3n) ?_
  rintro W5 ⟨k5, h5, f5, t5⟩
  have HK5 : Hid (Kp g w W5) := k5
  have HH5 : Hid (Bx W5 w.heap.size [vi ki 0, vS ⟨#[]⟩, vL none 0 0, vi ki 0]) := h5
  have HF5 : Hid (RF g b (w.heap.size + 1) W5 ea er) := f5
  obtain ⟨B7, hB7⟩ : ∃ B7, B7 = W3.heap.size := ⟨_, rfl⟩
  rw [← hB7] at t5 ⊢
  have hB7w : w.heap.size + 1 < B7 := by omega
  clear hB7
  obtain ⟨l0', l1', l2', l3'⟩ := t5.d4
  have hl' := t5.1
  clear k5 h5 f5 t5 cg1 fg1 hgl j0 j1 j2 j3 hj T4 K4 H4 F4
  obtain ⟨y0', y1', y2', y3', HFK, HFO, HFS, rr0, rr1, rr2, rr3, rf0, rf1, rf2, rf3, hrw'⟩ := fin9 (vi ki k9) (vS u9) (vL sq9 sn9 sc9) (vi ki a9) HK5.out (Nat.le_refl _) (HH5.out)
  go_wp2
  refine bodyPost_ret (v := .agg #[vi ki k9, vS u9, vL sq9 sn9 sc9, vi ki a9]) (by simp [results, Tryd.results58, go_sem, y0', y1', y2', y3']) rfl ⟨HFK.out, by rw [HR9.out]; exact ⟨HER.out, (HF5.out.off HFO.out HFS.out (by omega) (by omega) (by omega)).mono (by omega), _, _, _, _, _, _, rfl⟩⟩
 | ok n l1 =>
  rw [hr] at HC
  have HR8 : Hid ((match PR.ok n l1 with | .no a e => PR.no a e | .ok n [] => .no 0 0 | .ok n (q :: l1) => if isT q [(5, b1 41)] then .ok n l1 else .no q.2.2 30) = R) := by have := HRR.out; rw [hr] at this; exact this
  have HCC : Hid _ := HC
  clear HC hr HP HRR
  go_wp2_with fail
  refine Calls.mono HCC.out ?_
  rintro e W3 ⟨hk3, L1, rfl, hrs, hend, k9, u9, sq9, sn9, sc9, a9, rfl, hnd⟩
  obtain ⟨q1, L2, rfl⟩ := mL_none hend
  have hgq1 := hrs.good hGT.out
  have hsg := sg_sign hgq1 (show (b1 41) ∈ sgnL by unfold sgnL; simp)
  have HE1 : Hid (EndL (mL (q1 :: L2))) := hend
  have X9 := bsm1 W3 [vi ki k9, vS u9, vL sq9 sn9 sc9, vi ki a9] 30
  have K3 : Hid (Kp g w (W3.alloc (.cells #[vi ki k9, vS u9, vL sq9 sn9 sc9, vi ki a9] 30))) := (K2.out.trans hk3).alloc _
  have H3 : Hid (Bx (W3.alloc (.cells #[vi ki k9, vS u9, vL sq9 sn9 sc9, vi ki a9] 30)) w.heap.size [vi ki 0, vS ⟨#[]⟩, vL none 0 0, vi ki 0]) := (hk3.bx H2'.out (by omega)).alloc _
  have hw3 : W2.heap.size ≤ W3.heap.size := hk3.size
  have hg3 : g < W3.heap.size := by omega
  have hg3n : W3.heap.size ≠ g := by omega
  have HN9 : Hid (NdAt (fun c => W2.heap.size ≤ c) (W3.alloc (.cells #[vi ki k9, vS u9, vL sq9 sn9 sc9, vi ki a9] 30)) n [vi ki k9, vS u9, vL sq9 sn9 sc9, vi ki a9]) := hnd.below X9.out.1
  have S3 : Hid (RS g b cap T (W3.alloc (.cells #[vi ki k9, vS u9, vL sq9 sn9 sc9, vi ki a9] 30)) (q1 :: L2) (d + 1)) := hrs.below X9.out.1
  have HGq1 : Hid (GoodT q1) := hgq1
  clear hk3 hrs hend hnd HCC K2 H2' Q2 hgq1
  have HR7 : Hid ((if isT (mT q1) [(5, b1 41)] then PR.ok n (mL L2) else .no q1.2.2 30) = R) := HR8.out
  clear HR8
  by_cases hi : isT (mT q1) [(5, b1 41)] = true
  ·rw [hi] at hsg
   have HR9 : Hid (R = .ok n (mL L2)) := by have := HR7.out; rw [if_pos hi] at this; exact this.symm
   clear HR7
   have hEl : EndL (mL L2) := EndL.tail HE1.out (isT_kind hi (by simp))
   have HWa : Hid _ := rwant_yes g b cap T L2 q1 HGq1.out (b1 41) hsg (by obtain ⟨y, l3, rfl⟩ := mL_none hEl; simp) (d + 1) _ S3.out
   have HE2 : Hid (EndL (mL L2)) := hEl
   clear hsg hEl hi
   go_wp2_with fail
   refine Calls.mono HWa.out ?_
   rintro e W4 ⟨rfl, hk4, hr4⟩
   have K4 : Hid (Kp g w W4) := K3.out.trans hk4
   have H4 : Hid (Bx W4 w.heap.size [vi ki 0, vS ⟨#[]⟩, vL none 0 0, vi ki 0]) := hk4.bx H3.out (by omega)
   have T4 : Hid (Bx W4 W3.heap.size [vi ki k9, vS u9, vL sq9 sn9 sc9, vi ki a9]) := hk4.bx X9.out.first (by omega)
   obtain ⟨j0, j1, j2, j3⟩ := T4.out.d4
   have hj := T4.out.1
   have N4' : Hid (NdAt (fun c => W2.heap.size ≤ c) W4 n [vi ki k9, vS u9, vL sq9 sn9 sc9, vi ki a9]) := HN9.out.kp hk4 (fun c hc => ⟨hc, by omega⟩)
   have S4 : Hid (RS g b cap T W4 L2 (d + 1)) := hr4
   clear hk4 hr4 HWa K3 H3 S3 X9 HN9
   obtain ⟨⟨pre4, pa4, he4, hb4⟩, -⟩ := S4.out
   have cg1 := hb4.c 1 rfl
   have fg1 := hb4.f 1 rfl
   have hgl := hb4.1
   clear hb4 he4
   have hdw : IntKind.i64.wrap ((d : Int) + 1 - 1) = (d : Int) := by rw [IntKind.wrap_i64]; omega
   have hdw2 : IntKind.i64.wrap (d : Int) = (d : Int) := by rw [IntKind.wrap_i64]; omega
   go_upto_region 22 with fail
   refine gen_to (fun V => Kp g w V ∧ Bx V w.heap.size [vi ki 0, vS ⟨#[]⟩, vL none 0 0, vi ki 0] ∧ RS g b cap T V L2 d ∧ Bx V W3.heap.size [vi ki k9, vS u9, vL sq9 sn9 sc9, vi ki a9] ∧ NdAt (fun c => W2.heap.size ≤ c) V n [vi ki k9, vS u9, vL sq9 sn9 sc9, vi ki a9]) (rdeep_ok hg K4.out H4.out (by omega) S4.out T4.out hg3n N4'.out (fun c hc => by omega)) ?_
   rintro W5 ⟨k5, h5, s5, t5, n5⟩
   have HK5 : Hid (Kp g w W5) := k5
   have HH5 : Hid (Bx W5 w.heap.size [vi ki 0, vS ⟨#[]⟩, vL none 0 0, vi ki 0]) := h5
   have HS5 : Hid (RS g b cap T W5 L2 d) := s5
   have HN5 : Hid (NdAt (fun c => W2.heap.size ≤ c) W5 n [vi ki k9, vS u9, vL sq9 sn9 sc9, vi ki a9]) := n5
   obtain ⟨B7, hB7⟩ : ∃ B7, B7 = W3.heap.size := ⟨_, rfl⟩
   rw [← hB7] at t5 ⊢
   have hB7w : w.heap.size + 1 < B7 := by omega
   clear hB7
   obtain ⟨l0', l1', l2', l3'⟩ := t5.d4
   have hl' := t5.1
   clear k5 h5 s5 t5 n5 cg1 fg1 hgl j0 j1 j2 j3 hj T4 K4 H4 S4 N4'
   obtain ⟨y0', y1', y2', y3', HFK, HFO, HFS, rr0, rr1, rr2, rr3, rf0, rf1, rf2, rf3, hrw'⟩ := fin9 (vi ki k9) (vS u9) (vL sq9 sn9 sc9) (vi ki a9) HK5.out (Nat.le_refl _) (HH5.out)
   go_wp2
   refine bodyPost_ret (v := .agg #[vi ki k9, vS u9, vL sq9 sn9 sc9, vi ki a9]) (by simp [results, Tryd.results58, go_sem, y0', y1', y2', y3']) rfl ⟨HFK.out, by rw [HR9.out]; exact ⟨L2, rfl, HS5.out.off HFO.out HFS.out (by omega) (by omega), HE2.out, _, _, _, _, _, _, rfl, HN5.out.off HFO.out HFS.out (fun c hc => ⟨by omega, by omega⟩)⟩⟩
  ·rw [Bool.not_eq_true] at hi
   rw [hi] at hsg
   have HR9 : Hid (R = .no q1.2.2 30) := by have := HR7.out; rw [hi, if_neg (by simp)] at this; exact this.symm
   clear HR7
   have HWa : Hid _ := rwant_no g b W2.heap.size cap T L2 q1 HGq1.out (b1 41) hsg (d + 1) (by omega) _ S3.out
   clear hsg hi
   go_wp2_with fail
   refine Calls.mono HWa.out ?_
   rintro e W4 ⟨rfl, hk4, hf4⟩
   have K4 : Hid (Kp g w W4) := K3.out.trans hk4
   have H4 : Hid (Bx W4 w.heap.size [vi ki 0, vS ⟨#[]⟩, vL none 0 0, vi ki 0]) := hk4.bx H3.out (by omega)
   have T4 : Hid (Bx W4 W3.heap.size [vi ki k9, vS u9, vL sq9 sn9 sc9, vi ki a9]) := hk4.bx X9.out.first (by omega)
   obtain ⟨j0, j1, j2, j3⟩ := T4.out.d4
   have hj := T4.out.1
   have F4 : Hid (RF g b (w.heap.size + 1) W4 q1.2.2 30) := RF.mono hf4 (by omega)
   clear hk4 hf4 HWa K3 H3 S3 X9 HN9
   obtain ⟨c9, o9, n9, m9, D9, i9, z9, t9, hc9, hb9, -⟩ := F4.out
   have cg1 := hb9.c 1 rfl
   have fg1 := hb9.f 1 rfl
   have hgl := hb9.1
   clear hb9 hc9
   go_upto_region 22 with fail
   refine gen_to (fun V => Kp g w V ∧ Bx V w.heap.size [vi ki 0, vS ⟨#[]⟩, vL none 0 0, vi ki 0] ∧ RF g b (w.heap.size + 1) V q1.2.2 30 ∧ Bx V W3.heap.size [vi ki k9, vS u9, vL sq9 sn9 sc9, vi ki a9]) (rdeep_bad hg K4.out H4.out (by omega) F4.out T4.out hg3n) ?_
   rintro W5 ⟨k5, h5, f5, t5⟩
   have HK5 : Hid (Kp g w W5) := k5
   have HH5 : Hid (Bx W5 w.heap.size [vi ki 0, vS ⟨#[]⟩, vL none 0 0, vi ki 0]) := h5
   have HF5 : Hid (RF g b (w.heap.size + 1) W5 q1.2.2 30) := f5
   obtain ⟨B7, hB7⟩ : ∃ B7, B7 = W3.heap.size := ⟨_, rfl⟩
   rw [← hB7] at t5 ⊢
   have hB7w : w.heap.size + 1 < B7 := by omega
   clear hB7
   obtain ⟨l0', l1', l2', l3'⟩ := t5.d4
   have hl' := t5.1
   clear k5 h5 f5 t5 cg1 fg1 hgl j0 j1 j2 j3 hj T4 K4 H4 F4
   obtain ⟨y0', y1', y2', y3', HFK, HFO, HFS, rr0, rr1, rr2, rr3, rf0, rf1, rf2, rf3, hrw'⟩ := fin9 (vi ki k9) (vS u9) (vL sq9 sn9 sc9) (vi ki a9) HK5.out (Nat.le_refl _) (HH5.out)
   go_wp2
   refine bodyPost_ret (v := .agg #[vi ki k9, vS u9, vL sq9 sn9 sc9, vi ki a9]) (by simp [results, Tryd.results58, go_sem, y0', y1', y2', y3']) rfl ⟨HFK.out, by rw [HR9.out]; exact ⟨by decide, (HF5.out.off HFO.out HFS.out (by omega) (by omega) (by omega)).mono (by omega), _, _, _, _, _, _, rfl⟩⟩
theorem endL_one {p : Tk} {l : List Tk} (h : EndL (p :: l)) (h0 : p.1 = 0) : l = [] := by
 cases l with
 | nil => rfl
 | cons q l => exact absurd h0 h.1
theorem mL_nil {L : List Tk} (h : mL L = []) : L = [] := by
 cases L with
 | nil => rfl
 | cons r L => cases h
theorem isT_two (p : Tk) (k k' : Int) (s s' : ByteArray) : isT p [(k, s), (k', s')] = (decide (p.1 = k ∧ p.2.1 = s) || decide (p.1 = k' ∧ p.2.1 = s')) := by simp [isT]
theorem rprim_any (g b cap : Nat) (T : List Tk) (hG : Hid (∀ x ∈ T, GoodT x)) (N : Nat) (HP : Hid (RLv g b cap T 0 (N - 1))) (HN : Hid (RNm g b cap T (N - 1))) : RM g b cap T 58 9 N := by
 intro w L d f h hL hd hN hf
 obtain ⟨r, l, rfl⟩ := mL_none hL
 obtain ⟨f, rfl⟩ : ∃ f', f = f' + 1 := ⟨f - 1, by simp only [need, mL_cons, zl] at hf; omega⟩
 have hGr := h.good hG.out
 simp only [need, mL_cons, zl, mL_len] at hf hN
 rw [mL_cons] at hL
 have hk := hGr.kind
 have eP : par (f + 1) (.lv 9) d (mT r :: mL l) = (if (mT r).1 = 1 then PR.ok (.mk 1 (mT r).2.1 [] (mT r).2.2) (mL l)
   else if (mT r).1 = 2 then PR.ok (.mk 2 (mT r).2.1 [] (mT r).2.2) (mL l)
   else if (mT r).1 = 3 then PR.ok (.mk 3 (mT r).2.1 [] (mT r).2.2) (mL l)
   else if isT (mT r) [(4, trueB), (4, falseB)] then PR.ok (.mk 4 (mT r).2.1 [] (mT r).2.2) (mL l)
   else if isT (mT r) [(5, b1 40)] then
    if d = 20 then PR.no (mT r).2.2 31
    else match par f (.lv 0) (d + 1) (mL l) with
     | .no a e => PR.no a e
     | .ok n [] => PR.no 0 0
     | .ok n (q :: l1) => if isT q [(5, b1 41)] then PR.ok n l1 else PR.no q.2.2 30
   else if free (mT r) then nmF (par f) d (mT r) (mL l)
   else PR.no (mT r).2.2 30) := by
  rw [par_succ]; unfold pst; dsimp only
  rw [if_neg (by omega), if_neg (by omega), if_neg (by omega), if_neg (by omega), if_neg (by omega), if_pos rfl]
  rfl
 rw [mL_cons, eP]
 clear eP
 obtain ⟨k1, k2, k3, k4, k5, kn⟩ := @mT_kind r
 have hat : (mT r).2.2 = r.2.2 := rfl
 by_cases e5 : r.1 = 5
 ·have hl := mL_nil (endL_one hL (k5 e5))
  subst hl
  have q1 : (mT r).1 = 0 := k5 e5
  rw [if_neg (by omega), if_neg (by omega), if_neg (by omega), if_neg (by rw [isT_two, q1]; simp), if_neg (by rw [isT_one, q1]; simp), if_neg (by rw [mT_free hGr]; simp [e5])]
  exact rprim_end g b cap T r d hd e5 w h hGr
 have h0 : (mT r).1 ≠ 0 := fun q => e5 ((mT_end hGr).1 q)
 have hE : EndL (mL l) := EndL.tail hL h0
 by_cases e1 : r.1 = 1
 ·have q1 := k1 e1
  have q := rprim_1 g b cap T r l d hd e1 w h hGr hE
  by_cases hc : r.2.1.data.toList.contains 46 = true
  ·rw [if_pos hc] at q1 q
   rw [if_neg (by omega), if_pos q1, kn (by omega), hat]
   exact q
  ·rw [if_neg hc] at q1 q
   rw [if_pos q1, kn (by omega), hat]
   exact q
 by_cases e3 : r.1 = 3
 ·have q1 := k3 e3
  rw [if_neg (by omega), if_neg (by omega), if_pos q1, kn (by omega), hat]
  exact rprim_3 g b cap T r l d hd e3 w h hGr hE
 by_cases e4 : r.1 = 4
 ·have q1 := k4 e4
  rw [if_neg (by omega), if_neg (by omega), if_neg (by omega), if_neg (by rw [isT_two, q1]; simp), isT_one, q1, kn (by omega), hat]
  by_cases hw : r.2.1 = b1 40
  ·rw [if_pos (by simp [hw])]
   by_cases h20 : d = 20
   ·rw [if_pos h20]
    exact rprim_deep g b cap T r l d hd hG e4 hw h20 w h hGr hE
   ·rw [if_neg h20]
    exact rprim_par g b cap T r l d hd hG e4 hw (by omega) (N - 1) f HP.out (by omega) (by simp only [need, mL_len]; omega) w h hGr hE
  ·rw [if_neg (by simp [hw]), if_neg (by rw [mT_free hGr]; simp [e4])]
   exact rprim_sign g b cap T r l d hd hG e4 hw w h hGr hE
 have e2 : r.1 = 2 := by omega
 obtain ⟨q1, q2⟩ := k2 e2
 rw [if_neg (by omega), if_neg (by omega), if_neg (by omega), isT_two, q1, q2, hat]
 by_cases n1 : lowB r.2.1 = trueB
 ·rw [if_pos (by simp [n1]), n1]
  exact rprim_true g b cap T r l d hd e2 n1 w h hGr hE
 by_cases n2 : lowB r.2.1 = falseB
 ·rw [if_pos (by simp [n2]), n2]
  exact rprim_false g b cap T r l d hd e2 n2 w h hGr hE
 rw [if_neg (by simp [n1, n2]), if_neg (by rw [isT_one, q1]; simp)]
 by_cases hf2 : free (mT r) = true
 ·rw [if_pos hf2]
  exact rprim_name g b cap T r l d hd e2 hf2 (N - 1) f HN (by omega) (by omega) n1 n2 w h hGr hE
 ·rw [if_neg hf2]
  exact rprim_rsv g b cap T r l d hd hG e2 (by simpa using hf2) n1 n2 w h hGr hE
end Go.Proofs.YtaoocecipacnhaaDoor
