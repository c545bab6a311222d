import Derived.Test.YtaoocecipacnhaaDoorWz
import Derived.Test.YtaoocecipacnhaaDoorW25
import Derived.Test.YtaoocecipacnhaaDoorW14
open Go.Value renaming int → vi
open Go.IntKind renaming i64 → ki
open List renaming setIfInBounds_toArray → zb, set_cons_zero → zc, set_cons_succ → zd
open Go.Act renaming put → za
open Go.Ending renaming returned → zr
set_option maxRecDepth 100000
set_option maxHeartbeats 16000000
set_option linter.unusedVariables false
namespace Go.Proofs.YtaoocecipacnhaaDoor
open Go.RowKit
def nmF (r : Tg → Nat → List Tk → PR) (d : Nat) (p : Tk) (l : List Tk) : PR :=
 match l with
 | [] => .no 0 0
 | q :: l1 =>
  if q.1 = 3 ∧ typB p.2.1 = true then .ok (.mk 5 p.2.1 [.mk 3 q.2.1 [] q.2.2] p.2.2) l1
  else if isT q [(5, b1 40)] then
   if d = 20 then .no p.2.2 31
   else match l1 with
    | [] => .no 0 0
    | u :: l2 =>
     if isT u [(5, b1 41)] then .ok (.mk 9 p.2.1 [] p.2.2) l2
     else match r (.ks []) (d + 1) (u :: l2) with
      | .no a e => .no a e
      | .ok n l3 => .ok (.mk 9 p.2.1 n.ks p.2.2) l3
  else .no q.2.2 30
def RNm (g b cap : Nat) (T : List Tk) (N : Nat) : Prop :=
 ∀ (w : World) (t : Tk) (l : List Tk) (d f : Nat), RS g b cap T w l d → EndL (mL l) → GoodT t → free (mT t) = true → d ≤ 20 → l.length ≤ N → 10 * l.length + 10 ≤ f →
  Calls Tryd.prog 67 #[.pointer (some ⟨g, 0, none⟩), .agg #[vi ki t.1, .string t.2.1, vi ki t.2.2], .string (lowB t.2.1)] w fun e w' => Kp g w w' ∧ ROut g b w.heap.size cap T (fun c => w.heap.size ≤ c) w' d e (nmF (par f) d (mT t) (mL l))
theorem mT_kind {r : Tk} : (r.1 = 1 → (mT r).1 = if r.2.1.data.toList.contains 46 then 2 else 1) ∧ (r.1 = 2 → (mT r).1 = 4 ∧ (mT r).2.1 = lowB r.2.1) ∧ (r.1 = 3 → (mT r).1 = 3) ∧ (r.1 = 4 → (mT r).1 = 5) ∧ (r.1 = 5 → (mT r).1 = 0) ∧ (r.1 ≠ 2 → (mT r).2.1 = r.2.1) := by
 refine ⟨fun h => ?_, fun h => ?_, fun h => ?_, fun h => ?_, fun h => ?_, fun h => ?_⟩ <;> simp [mT, h]
theorem rfail_raw (g : Nat) (lv : Value) (D er a0 a : Int) (w : World) (hb : Bx w g [lv, vi ki D, vi ki 0, vi ki a0]) :
  Calls Tryd.prog 19 #[.pointer (some ⟨g, 0, none⟩), vi ki er, vi ki a] w fun e w' => e = zr (.agg #[vi ki 0, .string ⟨#[]⟩, .slice none 0 0, vi ki 0]) ∧ Kp g w w' ∧ Bx w' g [lv, vi ki D, vi ki er, vi ki a] := by
 have c2 := hb.c 2 rfl
 have c3 := hb.c 3 rfl
 have z2 := hb.f 2 rfl
 have z3 := hb.f 3 rfl
 have hg := hb.1
 have HB : Hid (Bx w g _) := hb
 clear hb
 go_enter Tryd.func19, Tryd.ntmps19
 go_wp2
 refine bodyPost_ret (v := .agg #[vi ki 0, .string ⟨#[]⟩, .slice none 0 0, vi ki 0]) (by simp [results, Tryd.results19, go_sem]) rfl ⟨rfl, ?_, ?_⟩
 ·exact (((Kp.refl g w).set (.inl rfl) _).set (.inl rfl) _).alloc _
 ·exact ((HB.out.set1 2 _ (by simp)).set1 3 _ (by simp)).alloc _
theorem prim_open {g b cap d : Nat} {T pre l : List Tk} {r : Tk} {w : World} {pa : Int} (htr : TR w b T) (he : T = pre ++ r :: l) (hne : b ≠ g) (hle : T.length ≤ cap) (hm : cap ≤ maxLen) (hbx : Bx w g [.slice (some ⟨b, pre.length * 3, none⟩) (r :: l).length (cap - pre.length), vi ki (d : Int), vi ki 0, vi ki pa]) :
  Hid (Kp g w ((((w.setCell ⟨g, 0, none⟩ (.slice (some ⟨b, pre.length * 3 + 3, none⟩) l.length (cap - pre.length - 1)))).alloc (.cells #[vi ki 0, .string ⟨#[]⟩, .slice none 0 0, vi ki 0] 30)).alloc (.cells #[vi ki r.1, .string r.2.1, vi ki r.2.2] 59))) ∧ Hid (Bx ((((w.setCell ⟨g, 0, none⟩ (.slice (some ⟨b, pre.length * 3 + 3, none⟩) l.length (cap - pre.length - 1)))).alloc (.cells #[vi ki 0, .string ⟨#[]⟩, .slice none 0 0, vi ki 0] 30)).alloc (.cells #[vi ki r.1, .string r.2.1, vi ki r.2.2] 59)) w.heap.size [vi ki 0, .string ⟨#[]⟩, .slice none 0 0, vi ki 0]) ∧ Hid (Bx ((((w.setCell ⟨g, 0, none⟩ (.slice (some ⟨b, pre.length * 3 + 3, none⟩) l.length (cap - pre.length - 1)))).alloc (.cells #[vi ki 0, .string ⟨#[]⟩, .slice none 0 0, vi ki 0] 30)).alloc (.cells #[vi ki r.1, .string r.2.1, vi ki r.2.2] 59)) (w.heap.size + 1) [vi ki r.1, .string r.2.1, vi ki r.2.2]) ∧ Hid (RS g b cap T ((((w.setCell ⟨g, 0, none⟩ (.slice (some ⟨b, pre.length * 3 + 3, none⟩) l.length (cap - pre.length - 1)))).alloc (.cells #[vi ki 0, .string ⟨#[]⟩, .slice none 0 0, vi ki 0] 30)).alloc (.cells #[vi ki r.1, .string r.2.1, vi ki r.2.2] 59)) l d) := by
 have KA : Kp g w ((((w.setCell ⟨g, 0, none⟩ (.slice (some ⟨b, pre.length * 3 + 3, none⟩) l.length (cap - pre.length - 1)))).alloc (.cells #[vi ki 0, .string ⟨#[]⟩, .slice none 0 0, vi ki 0] 30)).alloc (.cells #[vi ki r.1, .string r.2.1, vi ki r.2.2] 59)) := (((Kp.refl g w).set (p := ⟨g, 0, none⟩) (.inl rfl) _).alloc _).alloc _
 refine ⟨KA, ?_, ?_, RS.next (w := w) htr he hne hle hm KA (((hbx.set1 0 _ (by simp)).alloc _).alloc _)⟩
 ·have q := Bx.new (w.setCell ⟨g, 0, none⟩ (.slice (some ⟨b, pre.length * 3 + 3, none⟩) l.length (cap - pre.length - 1))) [vi ki 0, .string ⟨#[]⟩, .slice none 0 0, vi ki 0] 30
  rw [show (w.setCell ⟨g, 0, none⟩ (.slice (some ⟨b, pre.length * 3 + 3, none⟩) l.length (cap - pre.length - 1))).heap.size = w.heap.size by simp] at q
  exact q.alloc _
 ·have q := Bx.new ((w.setCell ⟨g, 0, none⟩ (.slice (some ⟨b, pre.length * 3 + 3, none⟩) l.length (cap - pre.length - 1))).alloc (.cells #[vi ki 0, .string ⟨#[]⟩, .slice none 0 0, vi ki 0] 30)) [vi ki r.1, .string r.2.1, vi ki r.2.2] 59
  rw [show ((w.setCell ⟨g, 0, none⟩ (.slice (some ⟨b, pre.length * 3 + 3, none⟩) l.length (cap - pre.length - 1))).alloc (.cells #[vi ki 0, .string ⟨#[]⟩, .slice none 0 0, vi ki 0] 30)).heap.size = w.heap.size + 1 by simp] at q
  exact q
theorem rprim_3 (g b cap : Nat) (T : List Tk) (r : Tk) (l : List Tk) (d : Nat) (hd : d ≤ 20) (hk : r.1 = 3) (w : World) (h : RS g b cap T w (r :: l) d) (hGr : GoodT r) (hL : EndL (mL l)) :
  Calls Tryd.prog 58 #[.pointer (some ⟨g, 0, none⟩)] w fun e w' => Kp g w w' ∧ ROut g b w.heap.size cap T (fun c => w.heap.size ≤ c) w' d e (.ok (.mk 3 r.2.1 [] r.2.2) (mL l)) := by
 have g1 : (r.1 == 1) = false := by rw [hk]; rfl
 have g3 : (r.1 == 3) = true := by rw [hk]; rfl
 have g1p : (r.1 = 1) = False := eq_false (by omega)
 have g3p : (r.1 = 3) = True := eq_true hk
 have HK : Hid _ := hk
 clear hk
 have hl1 : 1 ≤ l.length := by obtain ⟨q, l', rfl⟩ := mL_none hL; simp
 have HL : Hid (EndL (mL l)) := hL
 have hg := h.lt
 have hbl := h.tr.1
 have HGr : Hid (GoodT r) := hGr
 have hsz := hGr.size
 obtain ⟨pre, pa, cg0, cg1, cg2, fg0, fg1, t0, t1, t2, hgW, hbW, hlen, hmost, hle, hne, HEQ, HBX, HTR⟩ := RS.facts (h)
 clear h hL hGr
 have hcp : ¬ cap - pre.length = 1 := by omega
 obtain ⟨KA, KB1, KB2, KR⟩ := prim_open HTR.out HEQ.out hne hle hmost HBX.out
 go_enter Tryd.func58, Tryd.ntmps58
 go_wp2_with fail
 refine (rlower_any r.2.1 (by omega) _).mono ?_
 rintro e W1 ⟨rfl, hb⟩
 have K1 : Hid (Kp g w W1) := KA.out.trans (Kp.of hb)
 have H1 : Hid (Bx W1 w.heap.size [vi ki 0, .string ⟨#[]⟩, .slice none 0 0, vi ki 0]) := KB1.out.below hb
 have H2 : Hid (Bx W1 (w.heap.size + 1) [vi ki r.1, .string r.2.1, vi ki r.2.2]) := KB2.out.below hb
 have Q1 : Hid (RS g b cap T W1 l d) := KR.out.below hb
 clear hb KA KB1 KB2 KR hcp cg0 cg1 cg2 fg0 fg1 t0 t1 t2 hgW hbW hlen hmost hle HEQ HBX HTR hne
 have j0 := H2.out.c 0 rfl
 have j1 := H2.out.c 1 rfl
 have j2 := H2.out.c 2 rfl
 have hj := H2.out.1
 obtain ⟨y0', y1', y2', y3', HFK, HFO, HFS, rr0, rr1, rr2, rr3, rf0, rf1, rf2, rf3, hrw'⟩ := fin9 (vi ki 3) (.string r.2.1) (.slice none 0 0) (vi ki r.2.2) K1.out (Nat.le_refl _) (H1.out)
 go_wp2
 refine bodyPost_ret (v := .agg #[vi ki 3, .string r.2.1, .slice none 0 0, vi ki r.2.2]) (by simp [results, Tryd.results58, go_sem, y0', y1', y2', y3']) rfl ⟨HFK.out, ⟨l, rfl, Q1.out.off HFO.out HFS.out (by omega) (by omega), HL.out, _, _, _, _, _, _, rfl, NdAt.leaf _ _ _ _ _⟩⟩
theorem rprim_true (g b cap : Nat) (T : List Tk) (r : Tk) (l : List Tk) (d : Nat) (hd : d ≤ 20) (hk : r.1 = 2) (hw : lowB r.2.1 = trueB) (w : World) (h : RS g b cap T w (r :: l) d) (hGr : GoodT r) (hL : EndL (mL l)) :
  Calls Tryd.prog 58 #[.pointer (some ⟨g, 0, none⟩)] w fun e w' => Kp g w w' ∧ ROut g b w.heap.size cap T (fun c => w.heap.size ≤ c) w' d e (.ok (.mk 4 trueB [] r.2.2) (mL l)) := by
 have g1 : (r.1 == 1) = false := by rw [hk]; rfl
 have g3 : (r.1 == 3) = false := by rw [hk]; rfl
 have g4 : (r.1 == 4) = false := by rw [hk]; rfl
 have g2 : (r.1 == 2) = true := by rw [hk]; rfl
 have g1p : (r.1 = 1) = False := eq_false (by omega)
 have g3p : (r.1 = 3) = False := eq_false (by omega)
 have g4p : (r.1 = 4) = False := eq_false (by omega)
 have g2p : (r.1 = 2) = True := eq_true hk
 have HK : Hid _ := hk
 clear hk
 have hl1 : 1 ≤ l.length := by obtain ⟨q, l', rfl⟩ := mL_none hL; simp
 have HL : Hid (EndL (mL l)) := hL
 have hg := h.lt
 have hbl := h.tr.1
 have HGr : Hid (GoodT r) := hGr
 have hsz := hGr.size
 obtain ⟨pre, pa, cg0, cg1, cg2, fg0, fg1, t0, t1, t2, hgW, hbW, hlen, hmost, hle, hne, HEQ, HBX, HTR⟩ := RS.facts (h)
 clear h hL hGr
 have hcp : ¬ cap - pre.length = 1 := by omega
 obtain ⟨KA, KB1, KB2, KR⟩ := prim_open HTR.out HEQ.out hne hle hmost HBX.out
 go_enter Tryd.func58, Tryd.ntmps58
 go_wp2_with fail
 refine (rlower_any r.2.1 (by omega) _).mono ?_
 rintro e W1 ⟨rfl, hb⟩
 have K1 : Hid (Kp g w W1) := KA.out.trans (Kp.of hb)
 have H1 : Hid (Bx W1 w.heap.size [vi ki 0, .string ⟨#[]⟩, .slice none 0 0, vi ki 0]) := KB1.out.below hb
 have H2 : Hid (Bx W1 (w.heap.size + 1) [vi ki r.1, .string r.2.1, vi ki r.2.2]) := KB2.out.below hb
 have Q1 : Hid (RS g b cap T W1 l d) := KR.out.below hb
 clear hb KA KB1 KB2 KR hcp cg0 cg1 cg2 fg0 fg1 t0 t1 t2 hgW hbW hlen hmost hle HEQ HBX HTR hne
 have j0 := H2.out.c 0 rfl
 have j1 := H2.out.c 1 rfl
 have j2 := H2.out.c 2 rfl
 have hj := H2.out.1
 rw [hw]
 clear hw
 unfold trueB
 obtain ⟨y0', y1', y2', y3', HFK, HFO, HFS, rr0, rr1, rr2, rr3, rf0, rf1, rf2, rf3, hrw'⟩ := fin9 (vi ki 4) (.string ⟨#[116, 114, 117, 101]⟩) (.slice none 0 0) (vi ki r.2.2) K1.out (Nat.le_refl _) (H1.out)
 go_wp2
 refine bodyPost_ret (v := .agg #[vi ki 4, .string ⟨#[116, 114, 117, 101]⟩, .slice none 0 0, vi ki r.2.2]) (by simp [results, Tryd.results58, go_sem, y0', y1', y2', y3']) rfl ⟨HFK.out, ⟨l, rfl, Q1.out.off HFO.out HFS.out (by omega) (by omega), HL.out, _, _, _, _, _, _, rfl, NdAt.leaf _ _ _ _ _⟩⟩
theorem rprim_false (g b cap : Nat) (T : List Tk) (r : Tk) (l : List Tk) (d : Nat) (hd : d ≤ 20) (hk : r.1 = 2) (hw : lowB r.2.1 = falseB) (w : World) (h : RS g b cap T w (r :: l) d) (hGr : GoodT r) (hL : EndL (mL l)) :
  Calls Tryd.prog 58 #[.pointer (some ⟨g, 0, none⟩)] w fun e w' => Kp g w w' ∧ ROut g b w.heap.size cap T (fun c => w.heap.size ≤ c) w' d e (.ok (.mk 4 falseB [] r.2.2) (mL l)) := by
 have g1 : (r.1 == 1) = false := by rw [hk]; rfl
 have g3 : (r.1 == 3) = false := by rw [hk]; rfl
 have g4 : (r.1 == 4) = false := by rw [hk]; rfl
 have g2 : (r.1 == 2) = true := by rw [hk]; rfl
 have g1p : (r.1 = 1) = False := eq_false (by omega)
 have g3p : (r.1 = 3) = False := eq_false (by omega)
 have g4p : (r.1 = 4) = False := eq_false (by omega)
 have g2p : (r.1 = 2) = True := eq_true hk
 have HK : Hid _ := hk
 clear hk
 have hl1 : 1 ≤ l.length := by obtain ⟨q, l', rfl⟩ := mL_none hL; simp
 have HL : Hid (EndL (mL l)) := hL
 have hg := h.lt
 have hbl := h.tr.1
 have HGr : Hid (GoodT r) := hGr
 have hsz := hGr.size
 obtain ⟨pre, pa, cg0, cg1, cg2, fg0, fg1, t0, t1, t2, hgW, hbW, hlen, hmost, hle, hne, HEQ, HBX, HTR⟩ := RS.facts (h)
 clear h hL hGr
 have hcp : ¬ cap - pre.length = 1 := by omega
 obtain ⟨KA, KB1, KB2, KR⟩ := prim_open HTR.out HEQ.out hne hle hmost HBX.out
 go_enter Tryd.func58, Tryd.ntmps58
 go_wp2_with fail
 refine (rlower_any r.2.1 (by omega) _).mono ?_
 rintro e W1 ⟨rfl, hb⟩
 have K1 : Hid (Kp g w W1) := KA.out.trans (Kp.of hb)
 have H1 : Hid (Bx W1 w.heap.size [vi ki 0, .string ⟨#[]⟩, .slice none 0 0, vi ki 0]) := KB1.out.below hb
 have H2 : Hid (Bx W1 (w.heap.size + 1) [vi ki r.1, .string r.2.1, vi ki r.2.2]) := KB2.out.below hb
 have Q1 : Hid (RS g b cap T W1 l d) := KR.out.below hb
 clear hb KA KB1 KB2 KR hcp cg0 cg1 cg2 fg0 fg1 t0 t1 t2 hgW hbW hlen hmost hle HEQ HBX HTR hne
 have j0 := H2.out.c 0 rfl
 have j1 := H2.out.c 1 rfl
 have j2 := H2.out.c 2 rfl
 have hj := H2.out.1
 rw [hw]
 clear hw
 unfold falseB
 obtain ⟨y0', y1', y2', y3', HFK, HFO, HFS, rr0, rr1, rr2, rr3, rf0, rf1, rf2, rf3, hrw'⟩ := fin9 (vi ki 4) (.string ⟨#[102, 97, 108, 115, 101]⟩) (.slice none 0 0) (vi ki r.2.2) K1.out (Nat.le_refl _) (H1.out)
 go_wp2
 refine bodyPost_ret (v := .agg #[vi ki 4, .string ⟨#[102, 97, 108, 115, 101]⟩, .slice none 0 0, vi ki r.2.2]) (by simp [results, Tryd.results58, go_sem, y0', y1', y2', y3']) rfl ⟨HFK.out, ⟨l, rfl, Q1.out.off HFO.out HFS.out (by omega) (by omega), HL.out, _, _, _, _, _, _, rfl, NdAt.leaf _ _ _ _ _⟩⟩
theorem rprim_name (g b cap : Nat) (T : List Tk) (r : Tk) (l : List Tk) (d : Nat) (hd : d ≤ 20) (hk : r.1 = 2) (hf : free (mT r) = true) (N f : Nat) (HN : Hid (RNm g b cap T N)) (hN : l.length ≤ N) (hff : 10 * l.length + 10 ≤ f) (n1 : lowB r.2.1 ≠ trueB) (n2 : lowB r.2.1 ≠ falseB) (w : World) (h : RS g b cap T w (r :: l) d) (hGr : GoodT r) (hL : EndL (mL l)) :
  Calls Tryd.prog 58 #[.pointer (some ⟨g, 0, none⟩)] w fun e w' => Kp g w w' ∧ ROut g b w.heap.size cap T (fun c => w.heap.size ≤ c) w' d e (nmF (par f) d (mT r) (mL l)) := by
 obtain ⟨R, hR⟩ : ∃ R, nmF (par f) d (mT r) (mL l) = R := ⟨_, rfl⟩
 rw [hR]
 have HRR : Hid (nmF (par f) d (mT r) (mL l) = R) := hR
 clear hR
 have g1 : (r.1 == 1) = false := by rw [hk]; rfl
 have g3 : (r.1 == 3) = false := by rw [hk]; rfl
 have g4 : (r.1 == 4) = false := by rw [hk]; rfl
 have g2 : (r.1 == 2) = true := by rw [hk]; rfl
 have g1p : (r.1 = 1) = False := eq_false (by omega)
 have g3p : (r.1 = 3) = False := eq_false (by omega)
 have g4p : (r.1 = 4) = False := eq_false (by omega)
 have g2p : (r.1 = 2) = True := eq_true hk
 have m1 : ((lowB r.2.1).toList == [116, 114, 117, 101]) = false := (lit_eq _ [116, 114, 117, 101]).trans (decide_eq_false n1)
 have m2 : ((lowB r.2.1).toList == [102, 97, 108, 115, 101]) = false := (lit_eq _ [102, 97, 108, 115, 101]).trans (decide_eq_false n2)
 have HK : Hid _ := hk
 clear hk n1 n2
 have hl1 : 1 ≤ l.length := by obtain ⟨q, l', rfl⟩ := mL_none hL; simp
 have HL : Hid (EndL (mL l)) := hL
 have hg := h.lt
 have hbl := h.tr.1
 have HGr : Hid (GoodT r) := hGr
 have hsz := hGr.size
 obtain ⟨pre, pa, cg0, cg1, cg2, fg0, fg1, t0, t1, t2, hgW, hbW, hlen, hmost, hle, hne, HEQ, HBX, HTR⟩ := RS.facts (h)
 clear h hL hGr
 have hcp : ¬ cap - pre.length = 1 := by omega
 obtain ⟨KA, KB1, KB2, KR⟩ := prim_open HTR.out HEQ.out hne hle hmost HBX.out
 go_enter Tryd.func58, Tryd.ntmps58
 go_wp2_with fail
 refine (rlower_any r.2.1 (by omega) _).mono ?_
 rintro e W1 ⟨rfl, hb⟩
 have K1 : Hid (Kp g w W1) := KA.out.trans (Kp.of hb)
 have H1 : Hid (Bx W1 w.heap.size [vi ki 0, .string ⟨#[]⟩, .slice none 0 0, vi ki 0]) := KB1.out.below hb
 have H2 : Hid (Bx W1 (w.heap.size + 1) [vi ki r.1, .string r.2.1, vi ki r.2.2]) := KB2.out.below hb
 have Q1 : Hid (RS g b cap T W1 l d) := KR.out.below hb
 clear hb KA KB1 KB2 KR hcp cg0 cg1 cg2 fg0 fg1 t0 t1 t2 hgW hbW hlen hmost hle HEQ HBX HTR hne
 have j0 := H2.out.c 0 rfl
 have j1 := H2.out.c 1 rfl
 have j2 := H2.out.c 2 rfl
 have hj := H2.out.1
 have hfr := mT_free HGr.out
 rw [hf, decide_eq_true HK.out, Bool.true_and] at hfr
 have hrs : rsvd (lowB (lowB r.2.1)) = false := by rw [lowB_lowB]; simpa using hfr.symm
 clear hfr
 have HRs := rreserved_any (lowB r.2.1) (by rw [lowB_size]; omega) W1
 rw [hrs] at HRs
 have HRv : Hid _ := HRs
 clear HRs hrs
 go_wp2_with fail
 refine Calls.mono HRv.out ?_
 rintro e W2 ⟨rfl, hb⟩
 have K2 : Hid (Kp g w W2) := K1.out.trans (Kp.of hb)
 have H3 : Hid (Bx W2 w.heap.size [vi ki 0, .string ⟨#[]⟩, .slice none 0 0, vi ki 0]) := H1.out.below hb
 have H4 : Hid (Bx W2 (w.heap.size + 1) [vi ki r.1, .string r.2.1, vi ki r.2.2]) := H2.out.below hb
 have Q2 : Hid (RS g b cap T W2 l d) := Q1.out.below hb
 clear hb HRv K1 H1 H2 Q1 j0 j1 j2 hj
 have j0 := H4.out.c 0 rfl
 have j1 := H4.out.c 1 rfl
 have j2 := H4.out.c 2 rfl
 have hj := H4.out.1
 have HC := HN.out W2 r l d f Q2.out HL.out HGr.out hf hd hN hff
 rw [HRR.out] at HC
 have HCC : Hid _ := HC
 clear HC HRR hf m1 m2 HN
 go_wp2_with fail
 refine Calls.mono HCC.out ?_
 rintro e W3 ⟨hk3, ho⟩
 have K3 : Hid (Kp g w W3) := K2.out.trans hk3
 have H5 : Hid (Bx W3 w.heap.size [vi ki 0, .string ⟨#[]⟩, .slice none 0 0, vi ki 0]) := hk3.bx H3.out (by omega)
 have hz2 : w.heap.size + 1 < W2.heap.size := H4.out.1
 clear hk3 K2 H3 H4 Q2 HCC j0 j1 j2 hj
 cases R with
 | no ea er =>
  obtain ⟨her, hf, k9, u9, sq9, sn9, sc9, a9, rfl⟩ := ho
  have HF : Hid (RF g b W2.heap.size W3 ea er) := hf
  have HER : Hid (er ≠ 0) := her
  clear hf her
  obtain ⟨y0', y1', y2', y3', HFK, HFO, HFS, rr0, rr1, rr2, rr3, rf0, rf1, rf2, rf3, hrw'⟩ := fin9 (vi ki k9) (.string u9) (.slice sq9 sn9 sc9) (vi ki a9) K3.out (Nat.le_refl _) (H5.out)
  go_wp2
  refine bodyPost_ret (v := .agg #[vi ki k9, .string u9, .slice sq9 sn9 sc9, vi ki a9]) (by simp [results, Tryd.results58, go_sem, y0', y1', y2', y3']) rfl ⟨HFK.out, HER.out, (HF.out.off HFO.out HFS.out (by omega) (by omega) (by omega)).mono (by omega), _, _, _, _, _, _, rfl⟩
 | ok n l1 =>
  obtain ⟨L1, rfl, hrs, hend, k9, u9, sq9, sn9, sc9, a9, rfl, hnd⟩ := ho
  have HS : Hid (RS g b cap T W3 L1 d) := hrs
  have HE1 : Hid (EndL (mL L1)) := hend
  have HNd : Hid (NdAt (fun c => W2.heap.size ≤ c) W3 n [vi ki k9, .string u9, .slice sq9 sn9 sc9, vi ki a9]) := hnd
  clear hrs hend hnd
  obtain ⟨y0', y1', y2', y3', HFK, HFO, HFS, rr0, rr1, rr2, rr3, rf0, rf1, rf2, rf3, hrw'⟩ := fin9 (vi ki k9) (.string u9) (.slice sq9 sn9 sc9) (vi ki a9) K3.out (Nat.le_refl _) (H5.out)
  go_wp2
  refine bodyPost_ret (v := .agg #[vi ki k9, .string u9, .slice sq9 sn9 sc9, vi ki a9]) (by simp [results, Tryd.results58, go_sem, y0', y1', y2', y3']) rfl ⟨HFK.out, L1, rfl, HS.out.off HFO.out HFS.out (by omega) (by omega), HE1.out, _, _, _, _, _, _, rfl, HNd.out.off HFO.out HFS.out (fun c hc => ⟨by omega, by omega⟩)⟩
theorem rprim_sign (g b cap : Nat) (T : List Tk) (r : Tk) (l : List Tk) (d : Nat) (hd : d ≤ 20) (hGT : Hid (∀ x ∈ T, GoodT x)) (hk : r.1 = 4) (hw : r.2.1 ≠ b1 40) (w : World) (h : RS g b cap T w (r :: l) d) (hGr : GoodT r) (hL : EndL (mL l)) :
  Calls Tryd.prog 58 #[.pointer (some ⟨g, 0, none⟩)] w fun e w' => Kp g w w' ∧ ROut g b w.heap.size cap T (fun c => w.heap.size ≤ c) w' d e (.no r.2.2 30) := by
 have g1 : (r.1 == 1) = false := by rw [hk]; rfl
 have g3 : (r.1 == 3) = false := by rw [hk]; rfl
 have g4 : (r.1 == 4) = true := by rw [hk]; rfl
 have g2 : (r.1 == 2) = false := by rw [hk]; rfl
 have g5 : (r.1 == 5) = false := by rw [hk]; rfl
 have g1p : (r.1 = 1) = False := eq_false (by omega)
 have g3p : (r.1 = 3) = False := eq_false (by omega)
 have g4p : (r.1 = 4) = True := eq_true hk
 have g2p : (r.1 = 2) = False := eq_false (by omega)
 have g5p : (r.1 = 5) = False := eq_false (by omega)
 have HK : Hid _ := hk
 clear hk
 have hl1 : 1 ≤ l.length := by obtain ⟨q, l', rfl⟩ := mL_none hL; simp
 have HL : Hid (EndL (mL l)) := hL
 have hg := h.lt
 have hbl := h.tr.1
 have HGr : Hid (GoodT r) := hGr
 have hsz := hGr.size
 obtain ⟨pre, pa, cg0, cg1, cg2, fg0, fg1, t0, t1, t2, hgW, hbW, hlen, hmost, hle, hne, HEQ, HBX, HTR⟩ := RS.facts (h)
 clear h hL hGr
 have hcp : ¬ cap - pre.length = 1 := by omega
 obtain ⟨KA, KB1, KB2, KR⟩ := prim_open HTR.out HEQ.out hne hle hmost HBX.out
 go_enter Tryd.func58, Tryd.ntmps58
 go_wp2_with fail
 refine (rlower_any r.2.1 (by omega) _).mono ?_
 rintro e W1 ⟨rfl, hb⟩
 have K1 : Hid (Kp g w W1) := KA.out.trans (Kp.of hb)
 have H1 : Hid (Bx W1 w.heap.size [vi ki 0, .string ⟨#[]⟩, .slice none 0 0, vi ki 0]) := KB1.out.below hb
 have H2 : Hid (Bx W1 (w.heap.size + 1) [vi ki r.1, .string r.2.1, vi ki r.2.2]) := KB2.out.below hb
 have Q1 : Hid (RS g b cap T W1 l d) := KR.out.below hb
 clear hb KA KB1 KB2 KR hcp cg0 cg1 cg2 fg0 fg1 t0 t1 t2 hgW hbW hlen hmost hle HEQ HBX HTR hne
 have j0 := H2.out.c 0 rfl
 have j1 := H2.out.c 1 rfl
 have j2 := H2.out.c 2 rfl
 have hj := H2.out.1
 have m1 : (r.2.1.toList == [40]) = false := (lit_eq _ [40]).trans (decide_eq_false hw)
 clear hw
 obtain ⟨q, l0, hq⟩ := mL_none HL.out
 have hgq := (hq ▸ Q1.out).good hGT.out
 have HFl : Hid _ := rfail_ok g b (w.heap.size + 1) cap T l0 q hgq.size d (by omega) 30 r.2.2 W1 (hq ▸ Q1.out)
 clear hgq hq
 go_wp2_with fail
 refine Calls.mono HFl.out ?_
 rintro e W6 ⟨rfl, hk6, hf6⟩
 have K9 : Hid (Kp g w W6) := K1.out.trans hk6
 have H9 : Hid (Bx W6 w.heap.size [vi ki 0, .string ⟨#[]⟩, .slice none 0 0, vi ki 0]) := hk6.bx H1.out (by omega)
 have HF6 : Hid (RF g b (w.heap.size + 1) W6 r.2.2 30) := hf6
 clear hk6 hf6 HFl
 obtain ⟨y0', y1', y2', y3', HFK, HFO, HFS, rr0, rr1, rr2, rr3, rf0, rf1, rf2, rf3, hrw'⟩ := fin9 (vi ki 0) (.string ⟨#[]⟩) (.slice none 0 0) (vi ki 0) K9.out (Nat.le_refl _) (H9.out)
 go_wp2
 refine bodyPost_ret (v := .agg #[vi ki 0, .string ⟨#[]⟩, .slice none 0 0, vi ki 0]) (by simp [results, Tryd.results58, go_sem, y0', y1', y2', y3']) rfl ⟨HFK.out, by decide, (HF6.out.off HFO.out HFS.out (by omega) (by omega) (by omega)).mono (by omega), _, _, _, _, _, _, rfl⟩
theorem rprim_rsv (g b cap : Nat) (T : List Tk) (r : Tk) (l : List Tk) (d : Nat) (hd : d ≤ 20) (hGT : Hid (∀ x ∈ T, GoodT x)) (hk : r.1 = 2) (hf : free (mT r) = false) (n1 : lowB r.2.1 ≠ trueB) (n2 : lowB r.2.1 ≠ falseB) (w : World) (h : RS g b cap T w (r :: l) d) (hGr : GoodT r) (hL : EndL (mL l)) :
  Calls Tryd.prog 58 #[.pointer (some ⟨g, 0, none⟩)] w fun e w' => Kp g w w' ∧ ROut g b w.heap.size cap T (fun c => w.heap.size ≤ c) w' d e (.no r.2.2 30) := by
 have g1 : (r.1 == 1) = false := by rw [hk]; rfl
 have g3 : (r.1 == 3) = false := by rw [hk]; rfl
 have g4 : (r.1 == 4) = false := by rw [hk]; rfl
 have g2 : (r.1 == 2) = true := by rw [hk]; rfl
 have g5 : (r.1 == 5) = false := by rw [hk]; rfl
 have g1p : (r.1 = 1) = False := eq_false (by omega)
 have g3p : (r.1 = 3) = False := eq_false (by omega)
 have g4p : (r.1 = 4) = False := eq_false (by omega)
 have g2p : (r.1 = 2) = True := eq_true hk
 have g5p : (r.1 = 5) = False := eq_false (by omega)
 have m1 : ((lowB r.2.1).toList == [116, 114, 117, 101]) = false := (lit_eq _ [116, 114, 117, 101]).trans (decide_eq_false n1)
 have m2 : ((lowB r.2.1).toList == [102, 97, 108, 115, 101]) = false := (lit_eq _ [102, 97, 108, 115, 101]).trans (decide_eq_false n2)
 have HK : Hid _ := hk
 clear hk n1 n2
 have hl1 : 1 ≤ l.length := by obtain ⟨q, l', rfl⟩ := mL_none hL; simp
 have HL : Hid (EndL (mL l)) := hL
 have hg := h.lt
 have hbl := h.tr.1
 have HGr : Hid (GoodT r) := hGr
 have hsz := hGr.size
 obtain ⟨pre, pa, cg0, cg1, cg2, fg0, fg1, t0, t1, t2, hgW, hbW, hlen, hmost, hle, hne, HEQ, HBX, HTR⟩ := RS.facts (h)
 clear h hL hGr
 have hcp : ¬ cap - pre.length = 1 := by omega
 obtain ⟨KA, KB1, KB2, KR⟩ := prim_open HTR.out HEQ.out hne hle hmost HBX.out
 go_enter Tryd.func58, Tryd.ntmps58
 go_wp2_with fail
 refine (rlower_any r.2.1 (by omega) _).mono ?_
 rintro e W1 ⟨rfl, hb⟩
 have K1 : Hid (Kp g w W1) := KA.out.trans (Kp.of hb)
 have H1 : Hid (Bx W1 w.heap.size [vi ki 0, .string ⟨#[]⟩, .slice none 0 0, vi ki 0]) := KB1.out.below hb
 have H2 : Hid (Bx W1 (w.heap.size + 1) [vi ki r.1, .string r.2.1, vi ki r.2.2]) := KB2.out.below hb
 have Q1 : Hid (RS g b cap T W1 l d) := KR.out.below hb
 clear hb KA KB1 KB2 KR hcp cg0 cg1 cg2 fg0 fg1 t0 t1 t2 hgW hbW hlen hmost hle HEQ HBX HTR hne
 have j0 := H2.out.c 0 rfl
 have j1 := H2.out.c 1 rfl
 have j2 := H2.out.c 2 rfl
 have hj := H2.out.1
 have hfr := mT_free HGr.out
 rw [hf, decide_eq_true HK.out, Bool.true_and] at hfr
 have hrs : rsvd (lowB (lowB r.2.1)) = true := by rw [lowB_lowB]; simpa using hfr.symm
 clear hfr hf
 have HRs := rreserved_any (lowB r.2.1) (by rw [lowB_size]; omega) W1
 rw [hrs] at HRs
 have HRv : Hid _ := HRs
 clear HRs hrs
 go_wp2_with fail
 refine Calls.mono HRv.out ?_
 rintro e W2 ⟨rfl, hb⟩
 have K2 : Hid (Kp g w W2) := K1.out.trans (Kp.of hb)
 have H3 : Hid (Bx W2 w.heap.size [vi ki 0, .string ⟨#[]⟩, .slice none 0 0, vi ki 0]) := H1.out.below hb
 have H4 : Hid (Bx W2 (w.heap.size + 1) [vi ki r.1, .string r.2.1, vi ki r.2.2]) := H2.out.below hb
 have Q2 : Hid (RS g b cap T W2 l d) := Q1.out.below hb
 clear hb HRv K1 H1 H2 Q1 j0 j1 j2 hj m1 m2
 have j0 := H4.out.c 0 rfl
 have j1 := H4.out.c 1 rfl
 have j2 := H4.out.c 2 rfl
 have hj := H4.out.1
 obtain ⟨q, l0, hq⟩ := mL_none HL.out
 have hgq := (hq ▸ Q2.out).good hGT.out
 have HFl : Hid _ := rfail_ok g b (w.heap.size + 1) cap T l0 q hgq.size d (by omega) 30 r.2.2 W2 (hq ▸ Q2.out)
 clear hgq hq
 go_wp2_with fail
 refine Calls.mono HFl.out ?_
 rintro e W6 ⟨rfl, hk6, hf6⟩
 have K9 : Hid (Kp g w W6) := K2.out.trans hk6
 have H9 : Hid (Bx W6 w.heap.size [vi ki 0, .string ⟨#[]⟩, .slice none 0 0, vi ki 0]) := hk6.bx H3.out (by omega)
 have HF6 : Hid (RF g b (w.heap.size + 1) W6 r.2.2 30) := hf6
 clear hk6 hf6 HFl
 obtain ⟨y0', y1', y2', y3', HFK, HFO, HFS, rr0, rr1, rr2, rr3, rf0, rf1, rf2, rf3, hrw'⟩ := fin9 (vi ki 0) (.string ⟨#[]⟩) (.slice none 0 0) (vi ki 0) K9.out (Nat.le_refl _) (H9.out)
 go_wp2
 refine bodyPost_ret (v := .agg #[vi ki 0, .string ⟨#[]⟩, .slice none 0 0, vi ki 0]) (by simp [results, Tryd.results58, go_sem, y0', y1', y2', y3']) rfl ⟨HFK.out, by decide, (HF6.out.off HFO.out HFS.out (by omega) (by omega) (by omega)).mono (by omega), _, _, _, _, _, _, rfl⟩
theorem rprim_1 (g b cap : Nat) (T : List Tk) (r : Tk) (l : List Tk) (d : Nat) (hd : d ≤ 20) (hk : r.1 = 1) (w : World) (h : RS g b cap T w (r :: l) d) (hGr : GoodT r) (hL : EndL (mL l)) :
  Calls Tryd.prog 58 #[.pointer (some ⟨g, 0, none⟩)] w fun e w' => Kp g w w' ∧ ROut g b w.heap.size cap T (fun c => w.heap.size ≤ c) w' d e (.ok (.mk (if r.2.1.data.toList.contains 46 then 2 else 1) r.2.1 [] r.2.2) (mL l)) := by
 obtain ⟨G, hG⟩ : ∃ G, (if r.2.1.data.toList.contains 46 then (2 : Int) else 1) = G := ⟨_, rfl⟩
 rw [hG]
 have HGG : Hid ((if r.2.1.data.toList.contains 46 then (2 : Int) else 1) = G) := hG
 clear hG
 have g1 : (r.1 == 1) = true := by rw [hk]; rfl
 have g1p : (r.1 = 1) = True := eq_true hk
 have HK : Hid _ := hk
 clear hk
 have hl1 : 1 ≤ l.length := by obtain ⟨q, l', rfl⟩ := mL_none hL; simp
 have HL : Hid (EndL (mL l)) := hL
 have hg := h.lt
 have hbl := h.tr.1
 have HGr : Hid (GoodT r) := hGr
 have hsz := hGr.size
 obtain ⟨pre, pa, cg0, cg1, cg2, fg0, fg1, t0, t1, t2, hgW, hbW, hlen, hmost, hle, hne, HEQ, HBX, HTR⟩ := RS.facts (h)
 clear h hL hGr
 have hcp : ¬ cap - pre.length = 1 := by omega
 obtain ⟨KA, KB1, KB2, KR⟩ := prim_open HTR.out HEQ.out hne hle hmost HBX.out
 go_enter Tryd.func58, Tryd.ntmps58
 go_wp2_with fail
 refine (rlower_any r.2.1 (by omega) _).mono ?_
 rintro e W1 ⟨rfl, hb⟩
 have K1 : Hid (Kp g w W1) := KA.out.trans (Kp.of hb)
 have H1 : Hid (Bx W1 w.heap.size [vi ki 0, .string ⟨#[]⟩, .slice none 0 0, vi ki 0]) := KB1.out.below hb
 have H2 : Hid (Bx W1 (w.heap.size + 1) [vi ki r.1, .string r.2.1, vi ki r.2.2]) := KB2.out.below hb
 have Q1 : Hid (RS g b cap T W1 l d) := KR.out.below hb
 clear hb KA KB1 KB2 KR hcp cg0 cg1 cg2 fg0 fg1 t0 t1 t2 hgW hbW hlen hmost hle HEQ HBX HTR hne
 have j0 := H2.out.c 0 rfl
 have j1 := H2.out.c 1 rfl
 have j2 := H2.out.c 2 rfl
 have hj := H2.out.1
 obtain ⟨B, hB⟩ : ∃ B, B = W1.heap.size := ⟨_, rfl⟩
 have X0 : Hid (BS W1 [(W1.heap.size, [vi ki 1, .string r.2.1, .slice none 0 0, vi ki r.2.2])] (W1.alloc (.cells #[vi ki 1, .string r.2.1, .slice none 0 0, vi ki r.2.2] 30))) := (BS.start W1).new [vi ki 1, .string r.2.1, .slice none 0 0, vi ki r.2.2] 30 rfl
 have X1 : Hid (Kp g w (W1.alloc (.cells #[vi ki 1, .string r.2.1, .slice none 0 0, vi ki r.2.2] 30)) ∧ Bx (W1.alloc (.cells #[vi ki 1, .string r.2.1, .slice none 0 0, vi ki r.2.2] 30)) w.heap.size [vi ki 0, .string ⟨#[]⟩, .slice none 0 0, vi ki 0] ∧ Bx (W1.alloc (.cells #[vi ki 1, .string r.2.1, .slice none 0 0, vi ki r.2.2] 30)) (w.heap.size + 1) [vi ki r.1, .string r.2.1, vi ki r.2.2] ∧ RS g b cap T (W1.alloc (.cells #[vi ki 1, .string r.2.1, .slice none 0 0, vi ki r.2.2] 30)) l d ∧ Bx (W1.alloc (.cells #[vi ki 1, .string r.2.1, .slice none 0 0, vi ki r.2.2] 30)) B [vi ki 1, .string r.2.1, .slice none 0 0, vi ki r.2.2]) := ⟨K1.out.alloc _, H1.out.alloc _, H2.out.alloc _, Q1.out.below X0.out.1, by rw [hB]; exact X0.out.first⟩
 have hjB : w.heap.size + 1 < B := by omega
 clear X0 K1 H1 H2 Q1
 go_wp2_with fail
 rw [← hB]
 clear hB hj j0 j1 j2
 go_loopw [6] (fun v W => ∃ i : Nat, v = vi ki (i : Int) ∧ i ≤ r.2.1.size ∧ Hid (Kp g w W ∧ Bx W w.heap.size [vi ki 0, .string ⟨#[]⟩, .slice none 0 0, vi ki 0] ∧ Bx W (w.heap.size + 1) [vi ki r.1, .string r.2.1, vi ki r.2.2] ∧ RS g b cap T W l d ∧ Bx W B [vi ki (if (r.2.1.data.toList.take i).contains 46 then (2 : Int) else 1), .string r.2.1, .slice none 0 0, vi ki r.2.2])) (fun v _ => r.2.1.size - (intOf v).toNat)
 case atStart => exact ⟨0, rfl, Nat.zero_le _, X1.out⟩
 case round =>
  obtain ⟨i, rfl, hi, HX0⟩ := hrel
  clear X1
  have hi0 : (0 : Int) ≤ (i : Int) := by omega
  obtain ⟨v, hv⟩ : ∃ v, (if (r.2.1.data.toList.take i).contains 46 then (2 : Int) else 1) = v := ⟨_, rfl⟩
  rw [hv] at HX0
  have HV : Hid ((if (r.2.1.data.toList.take i).contains 46 then (2 : Int) else 1) = v) := hv
  have HX := HX0
  clear hv HX0
  have j1 := HX.out.2.2.1.c 1 rfl
  have hj := HX.out.2.2.1.1
  by_cases hil : i < r.2.1.size
  ·have hiI : (i : Int) < (r.2.1.size : Int) := by omega
   have hiw : IntKind.i64.wrap ((i : Int) + 1) = (i : Int) + 1 := by rw [IntKind.wrap_i64]; omega
   have htk : r.2.1.data.toList.take (i + 1) = r.2.1.data.toList.take i ++ [r.2.1[i]'hil] := by rw [List.take_add_one, List.getElem?_eq_getElem (show i < r.2.1.data.toList.length by rw [Array.length_toList]; exact hil)]; rfl
   obtain ⟨c, hc⟩ : ∃ c, r.2.1[i]'hil = c := ⟨_, rfl⟩
   rw [hc] at htk
   have HT : Hid _ := htk
   clear htk
   by_cases h46 : c = 46
   ·have hb : ((r.2.1[i]'hil).toNat : Int) = 46 := by rw [hc, h46]; rfl
    have HN : Hid ((if (r.2.1.data.toList.take (i + 1)).contains 46 then (2 : Int) else 1) = 2) := by show _ = _; rw [HT.out, h46, if_pos (by simp)]
    have bf0 := HX.out.2.2.2.2.f 0 rfl
    have b0 := HX.out.2.2.2.2.c 0 rfl
    have hB := HX.out.2.2.2.2.1
    clear hc h46 HT
    go_wp2
    refine ⟨⟨i + 1, by simp, by omega, ?_⟩, by simp [intOf]; omega⟩
    rw [HN.out]
    exact ⟨HX.out.1.set (p := ⟨B, 0, none⟩) (.inr (by show _ ≤ B; omega)) _, HX.out.2.1.setOther (by omega) [_] 0, HX.out.2.2.1.setOther (by omega) [_] 0, HX.out.2.2.2.1.off (r := B) (fun k _ hk => Below.heap_setCell _ _ _ _ hk) (by simp) (by omega) (by omega), HX.out.2.2.2.2.set1 0 _ (by simp)⟩
   ·have hb : ((r.2.1[i]'hil).toNat : Int) = (c.toNat : Int) := by rw [hc]
    have gc : ((c.toNat : Int) == 46) = false := by simp; intro e; exact h46 (UInt8.toNat_inj.1 (by show c.toNat = 46; omega))
    have gcp : ((c.toNat : Int) = 46) = False := eq_false (by simpa using gc)
    have HN : Hid ((if (r.2.1.data.toList.take (i + 1)).contains 46 then (2 : Int) else 1) = v) := by show _ = _; rw [HT.out, ← HV.out]; congr 1; simp only [List.contains_eq_mem, List.mem_append, List.mem_singleton, eq_iff_iff, decide_eq_true_eq]; constructor; (rintro (h | h); exact h; exact absurd h.symm h46); exact Or.inl
    clear hc h46 HT
    go_wp2
    refine ⟨⟨i + 1, by simp, by omega, ?_⟩, by simp [intOf]; omega⟩
    rw [HN.out]
    exact HX.out
  ·obtain rfl : i = r.2.1.size := by omega
   have hiI : ¬ (r.2.1.size : Int) < (r.2.1.size : Int) := by omega
   have HN : Hid (G = v) := by show G = v; rw [← HGG.out]; have := HV.out; rw [show r.2.1.data.toList.take r.2.1.size = r.2.1.data.toList from List.take_of_length_le (by rw [Array.length_toList]; exact Nat.le_refl _)] at this; exact this
   obtain ⟨b0, b1, b2, b3⟩ := HX.out.2.2.2.2.d4
   have hB := HX.out.2.2.2.2.1
   obtain ⟨y0', y1', y2', y3', HFK, HFO, HFS, rr0, rr1, rr2, rr3, rf0, rf1, rf2, rf3, hrw'⟩ := fin9 (vi ki v) (.string r.2.1) (.slice none 0 0) (vi ki r.2.2) HX.out.1 (Nat.le_refl _) (HX.out.2.1)
   go_wp2
   refine bodyPost_ret (v := .agg #[vi ki v, .string r.2.1, .slice none 0 0, vi ki r.2.2]) (by simp [results, Tryd.results58, go_sem, y0', y1', y2', y3']) rfl ⟨HFK.out, by rw [HN.out]; exact ⟨l, rfl, HX.out.2.2.2.1.off HFO.out HFS.out (by omega) (by omega), HL.out, _, _, _, _, _, _, rfl, NdAt.leaf _ _ _ _ _⟩⟩
theorem rprim_end (g b cap : Nat) (T : List Tk) (r : Tk) (d : Nat) (hd : d ≤ 20) (hk : r.1 = 5) (w : World) (h : RS g b cap T w [r] d) (hGr : GoodT r) :
  Calls Tryd.prog 58 #[.pointer (some ⟨g, 0, none⟩)] w fun e w' => Kp g w w' ∧ ROut g b w.heap.size cap T (fun c => w.heap.size ≤ c) w' d e (.no r.2.2 30) := by
 have g1 : (r.1 == 1) = false := by rw [hk]; rfl
 have g3 : (r.1 == 3) = false := by rw [hk]; rfl
 have g4 : (r.1 == 4) = false := by rw [hk]; rfl
 have g2 : (r.1 == 2) = false := by rw [hk]; rfl
 have g5 : (r.1 == 5) = true := by rw [hk]; rfl
 have g1p : (r.1 = 1) = False := eq_false (by omega)
 have g3p : (r.1 = 3) = False := eq_false (by omega)
 have g4p : (r.1 = 4) = False := eq_false (by omega)
 have g2p : (r.1 = 2) = False := eq_false (by omega)
 have g5p : (r.1 = 5) = True := eq_true hk
 clear hk
 have l : List Tk := []
 have hg := h.lt
 have hbl := h.tr.1
 have hsz := hGr.size
 have HGr : Hid (GoodT r) := hGr
 obtain ⟨pre, pa, cg0, cg1, cg2, fg0, fg1, t0, t1, t2, hgW, hbW, hlen, hmost, hle, hne, HEQ, HBX, HTR⟩ := RS.facts (h)
 clear h hGr
 go_enter Tryd.func58, Tryd.ntmps58
 by_cases hcp : cap - pre.length = 1
 ·have KA : Hid (Kp g w ((((w.setCell ⟨g, 0, none⟩ (.slice (some ⟨b, pre.length * 3, none⟩) 0 0))).alloc (.cells #[vi ki 0, .string ⟨#[]⟩, .slice none 0 0, vi ki 0] 30)).alloc (.cells #[vi ki r.1, .string r.2.1, vi ki r.2.2] 59))) := (((Kp.refl g w).set (p := ⟨g, 0, none⟩) (.inl rfl) _).alloc _).alloc _
  have KB1 : Hid (Bx ((((w.setCell ⟨g, 0, none⟩ (.slice (some ⟨b, pre.length * 3, none⟩) 0 0))).alloc (.cells #[vi ki 0, .string ⟨#[]⟩, .slice none 0 0, vi ki 0] 30)).alloc (.cells #[vi ki r.1, .string r.2.1, vi ki r.2.2] 59)) w.heap.size [vi ki 0, .string ⟨#[]⟩, .slice none 0 0, vi ki 0]) := by have q := Bx.new (w.setCell ⟨g, 0, none⟩ (.slice (some ⟨b, pre.length * 3, none⟩) 0 0)) [vi ki 0, .string ⟨#[]⟩, .slice none 0 0, vi ki 0] 30; rw [show (w.setCell ⟨g, 0, none⟩ (.slice (some ⟨b, pre.length * 3, none⟩) 0 0)).heap.size = w.heap.size by simp] at q; exact q.alloc _
  have KB2 : Hid (Bx ((((w.setCell ⟨g, 0, none⟩ (.slice (some ⟨b, pre.length * 3, none⟩) 0 0))).alloc (.cells #[vi ki 0, .string ⟨#[]⟩, .slice none 0 0, vi ki 0] 30)).alloc (.cells #[vi ki r.1, .string r.2.1, vi ki r.2.2] 59)) (w.heap.size + 1) [vi ki r.1, .string r.2.1, vi ki r.2.2]) := by have q := Bx.new ((w.setCell ⟨g, 0, none⟩ (.slice (some ⟨b, pre.length * 3, none⟩) 0 0)).alloc (.cells #[vi ki 0, .string ⟨#[]⟩, .slice none 0 0, vi ki 0] 30)) [vi ki r.1, .string r.2.1, vi ki r.2.2] 59; rw [show ((w.setCell ⟨g, 0, none⟩ (.slice (some ⟨b, pre.length * 3, none⟩) 0 0)).alloc (.cells #[vi ki 0, .string ⟨#[]⟩, .slice none 0 0, vi ki 0] 30)).heap.size = w.heap.size + 1 by simp] at q; exact q
  have KG : Hid (Bx ((((w.setCell ⟨g, 0, none⟩ (.slice (some ⟨b, pre.length * 3, none⟩) 0 0))).alloc (.cells #[vi ki 0, .string ⟨#[]⟩, .slice none 0 0, vi ki 0] 30)).alloc (.cells #[vi ki r.1, .string r.2.1, vi ki r.2.2] 59)) g [.slice (some ⟨b, pre.length * 3, none⟩) 0 0, vi ki (d : Int), vi ki 0, vi ki pa]) := (((HBX.out).set1 0 _ (by simp)).alloc _).alloc _
  go_wp2_with fail
  refine (rlower_any r.2.1 (by omega) _).mono ?_
  rintro e W1 ⟨rfl, hb⟩
  have K1 : Hid (Kp g w W1) := KA.out.trans (Kp.of hb)
  have H1 : Hid (Bx W1 w.heap.size [vi ki 0, .string ⟨#[]⟩, .slice none 0 0, vi ki 0]) := KB1.out.below hb
  have H2 : Hid (Bx W1 (w.heap.size + 1) [vi ki r.1, .string r.2.1, vi ki r.2.2]) := KB2.out.below hb
  have G1 : Hid (Bx W1 g [.slice (some ⟨b, pre.length * 3, none⟩) 0 0, vi ki (d : Int), vi ki 0, vi ki pa]) := KG.out.below hb
  have hm1 : cap ≤ maxLen := by unfold maxLen; omega
  clear hb KA KB1 KB2 KG cg0 cg1 cg2 fg0 fg1 t0 t1 t2 hgW hbW HEQ HBX HTR
  have j0 := H2.out.c 0 rfl
  have j1 := H2.out.c 1 rfl
  have j2 := H2.out.c 2 rfl
  have hj := H2.out.1
  have cg0 := G1.out.c 0 rfl
  have fg0 := G1.out.f 0 rfl
  have hg1 := G1.out.1
  have X0 : Hid (BS W1 [(W1.heap.size, [vi ki r.1, .string r.2.1, vi ki r.2.2])] (W1.alloc (.cells #[vi ki r.1, .string r.2.1, vi ki r.2.2] 59))) := (BS.start W1).new [vi ki r.1, .string r.2.1, vi ki r.2.2] 59 rfl
  have X1 : Hid (Bx ((W1.setCell ⟨g, 0, none⟩ (.slice (some ⟨W1.heap.size, 0, none⟩) 1 1)).alloc (.cells #[vi ki r.1, .string r.2.1, vi ki r.2.2] 59)) g [.slice (some ⟨W1.heap.size, 0, none⟩) 1 1, vi ki (d : Int), vi ki 0, vi ki pa]) := (G1.out.set1 0 _ (by simp)).alloc _
  have X2 : Hid (Kp g w ((W1.setCell ⟨g, 0, none⟩ (.slice (some ⟨W1.heap.size, 0, none⟩) 1 1)).alloc (.cells #[vi ki r.1, .string r.2.1, vi ki r.2.2] 59))) := (K1.out.set (p := ⟨g, 0, none⟩) (.inl rfl) _).alloc _
  have X3 : Hid (Bx ((W1.setCell ⟨g, 0, none⟩ (.slice (some ⟨W1.heap.size, 0, none⟩) 1 1)).alloc (.cells #[vi ki r.1, .string r.2.1, vi ki r.2.2] 59)) w.heap.size [vi ki 0, .string ⟨#[]⟩, .slice none 0 0, vi ki 0]) := (((Kp.refl g W1).set (p := ⟨g, 0, none⟩) (.inl rfl) _).bx H1.out (by omega)).alloc _
  have X4 : Hid (Bx ((W1.setCell ⟨g, 0, none⟩ (.slice (some ⟨W1.heap.size, 0, none⟩) 1 1)).alloc (.cells #[vi ki r.1, .string r.2.1, vi ki r.2.2] 59)) W1.heap.size [vi ki r.1, .string r.2.1, vi ki r.2.2]) := by have q := Bx.new (W1.setCell ⟨g, 0, none⟩ (.slice (some ⟨W1.heap.size, 0, none⟩) 1 1)) [vi ki r.1, .string r.2.1, vi ki r.2.2] 59; rw [show (W1.setCell ⟨g, 0, none⟩ (.slice (some ⟨W1.heap.size, 0, none⟩) 1 1)).heap.size = W1.heap.size by simp] at q; exact q
  have hw1 : w.heap.size + 1 < W1.heap.size := hj
  go_wp2_with fail
  refine (rfail_raw g _ _ 30 pa r.2.2 _ X1.out).mono ?_
  rintro e W2 ⟨rfl, hk2, hb2⟩
  have K2 : Hid (Kp g w W2) := X2.out.trans hk2
  have H3 : Hid (Bx W2 w.heap.size [vi ki 0, .string ⟨#[]⟩, .slice none 0 0, vi ki 0]) := hk2.bx X3.out (by omega)
  have H4 : Hid (Bx W2 W1.heap.size [vi ki r.1, .string r.2.1, vi ki r.2.2]) := hk2.bx X4.out (by omega)
  have HF : Hid (RF g b (w.heap.size + 1) W2 r.2.2 30) := ⟨W1.heap.size, 0, 1, 1, d, r.1, r.2.2, r.2.1, .inr (by omega), hb2, Nat.le_refl _, Nat.le_refl _, by unfold maxLen; omega, by omega, H4.out.1, hsz, trivial, H4.out.c 0 rfl, H4.out.c 1 rfl, H4.out.c 2 rfl⟩
  clear hk2 hb2 X0 X1 X2 X3 X4 K1 H1 H2 G1 j0 j1 j2 hj cg0 fg0 hg1 H4
  obtain ⟨y0', y1', y2', y3', HFK, HFO, HFS, rr0, rr1, rr2, rr3, rf0, rf1, rf2, rf3, hrw'⟩ := fin9 (vi ki 0) (.string ⟨#[]⟩) (.slice none 0 0) (vi ki 0) K2.out (Nat.le_refl _) (H3.out)
  go_wp2
  refine bodyPost_ret (v := .agg #[vi ki 0, .string ⟨#[]⟩, .slice none 0 0, vi ki 0]) (by simp [results, Tryd.results58, go_sem, y0', y1', y2', y3']) rfl ⟨HFK.out, by decide, (HF.out.off HFO.out HFS.out (by omega) (by omega) (by omega)).mono (by omega), _, _, _, _, _, _, rfl⟩
 ·have KA : Hid (Kp g w ((((w.setCell ⟨g, 0, none⟩ (.slice (some ⟨b, pre.length * 3 + 3, none⟩) 0 (cap - pre.length - 1)))).alloc (.cells #[vi ki 0, .string ⟨#[]⟩, .slice none 0 0, vi ki 0] 30)).alloc (.cells #[vi ki r.1, .string r.2.1, vi ki r.2.2] 59))) := (((Kp.refl g w).set (p := ⟨g, 0, none⟩) (.inl rfl) _).alloc _).alloc _
  have KB1 : Hid (Bx ((((w.setCell ⟨g, 0, none⟩ (.slice (some ⟨b, pre.length * 3 + 3, none⟩) 0 (cap - pre.length - 1)))).alloc (.cells #[vi ki 0, .string ⟨#[]⟩, .slice none 0 0, vi ki 0] 30)).alloc (.cells #[vi ki r.1, .string r.2.1, vi ki r.2.2] 59)) w.heap.size [vi ki 0, .string ⟨#[]⟩, .slice none 0 0, vi ki 0]) := by have q := Bx.new (w.setCell ⟨g, 0, none⟩ (.slice (some ⟨b, pre.length * 3 + 3, none⟩) 0 (cap - pre.length - 1))) [vi ki 0, .string ⟨#[]⟩, .slice none 0 0, vi ki 0] 30; rw [show (w.setCell ⟨g, 0, none⟩ (.slice (some ⟨b, pre.length * 3 + 3, none⟩) 0 (cap - pre.length - 1))).heap.size = w.heap.size by simp] at q; exact q.alloc _
  have KB2 : Hid (Bx ((((w.setCell ⟨g, 0, none⟩ (.slice (some ⟨b, pre.length * 3 + 3, none⟩) 0 (cap - pre.length - 1)))).alloc (.cells #[vi ki 0, .string ⟨#[]⟩, .slice none 0 0, vi ki 0] 30)).alloc (.cells #[vi ki r.1, .string r.2.1, vi ki r.2.2] 59)) (w.heap.size + 1) [vi ki r.1, .string r.2.1, vi ki r.2.2]) := by have q := Bx.new ((w.setCell ⟨g, 0, none⟩ (.slice (some ⟨b, pre.length * 3 + 3, none⟩) 0 (cap - pre.length - 1))).alloc (.cells #[vi ki 0, .string ⟨#[]⟩, .slice none 0 0, vi ki 0] 30)) [vi ki r.1, .string r.2.1, vi ki r.2.2] 59; rw [show ((w.setCell ⟨g, 0, none⟩ (.slice (some ⟨b, pre.length * 3 + 3, none⟩) 0 (cap - pre.length - 1))).alloc (.cells #[vi ki 0, .string ⟨#[]⟩, .slice none 0 0, vi ki 0] 30)).heap.size = w.heap.size + 1 by simp] at q; exact q
  have KG : Hid (Bx ((((w.setCell ⟨g, 0, none⟩ (.slice (some ⟨b, pre.length * 3 + 3, none⟩) 0 (cap - pre.length - 1)))).alloc (.cells #[vi ki 0, .string ⟨#[]⟩, .slice none 0 0, vi ki 0] 30)).alloc (.cells #[vi ki r.1, .string r.2.1, vi ki r.2.2] 59)) g [.slice (some ⟨b, pre.length * 3 + 3, none⟩) 0 (cap - pre.length - 1), vi ki (d : Int), vi ki 0, vi ki pa]) := (((HBX.out).set1 0 _ (by simp)).alloc _).alloc _
  go_wp2_with fail
  refine (rlower_any r.2.1 (by omega) _).mono ?_
  rintro e W1 ⟨rfl, hb⟩
  have K1 : Hid (Kp g w W1) := KA.out.trans (Kp.of hb)
  have H1 : Hid (Bx W1 w.heap.size [vi ki 0, .string ⟨#[]⟩, .slice none 0 0, vi ki 0]) := KB1.out.below hb
  have H2 : Hid (Bx W1 (w.heap.size + 1) [vi ki r.1, .string r.2.1, vi ki r.2.2]) := KB2.out.below hb
  have G1 : Hid (Bx W1 g [.slice (some ⟨b, pre.length * 3 + 3, none⟩) 0 (cap - pre.length - 1), vi ki (d : Int), vi ki 0, vi ki pa]) := KG.out.below hb
  have hm1 : cap ≤ maxLen := by unfold maxLen; omega
  clear hb KA KB1 KB2 KG cg0 cg1 cg2 fg0 fg1 t0 t1 t2 hgW hbW HEQ HBX HTR
  have j0 := H2.out.c 0 rfl
  have j1 := H2.out.c 1 rfl
  have j2 := H2.out.c 2 rfl
  have hj := H2.out.1
  have cg0 := G1.out.c 0 rfl
  have fg0 := G1.out.f 0 rfl
  have hg1 := G1.out.1
  have X0 : Hid (BS W1 [(W1.heap.size, [vi ki r.1, .string r.2.1, vi ki r.2.2])] (W1.alloc (.cells #[vi ki r.1, .string r.2.1, vi ki r.2.2] 59))) := (BS.start W1).new [vi ki r.1, .string r.2.1, vi ki r.2.2] 59 rfl
  have X1 : Hid (Bx ((W1.setCell ⟨g, 0, none⟩ (.slice (some ⟨W1.heap.size, 0, none⟩) 1 1)).alloc (.cells #[vi ki r.1, .string r.2.1, vi ki r.2.2] 59)) g [.slice (some ⟨W1.heap.size, 0, none⟩) 1 1, vi ki (d : Int), vi ki 0, vi ki pa]) := (G1.out.set1 0 _ (by simp)).alloc _
  have X2 : Hid (Kp g w ((W1.setCell ⟨g, 0, none⟩ (.slice (some ⟨W1.heap.size, 0, none⟩) 1 1)).alloc (.cells #[vi ki r.1, .string r.2.1, vi ki r.2.2] 59))) := (K1.out.set (p := ⟨g, 0, none⟩) (.inl rfl) _).alloc _
  have X3 : Hid (Bx ((W1.setCell ⟨g, 0, none⟩ (.slice (some ⟨W1.heap.size, 0, none⟩) 1 1)).alloc (.cells #[vi ki r.1, .string r.2.1, vi ki r.2.2] 59)) w.heap.size [vi ki 0, .string ⟨#[]⟩, .slice none 0 0, vi ki 0]) := (((Kp.refl g W1).set (p := ⟨g, 0, none⟩) (.inl rfl) _).bx H1.out (by omega)).alloc _
  have X4 : Hid (Bx ((W1.setCell ⟨g, 0, none⟩ (.slice (some ⟨W1.heap.size, 0, none⟩) 1 1)).alloc (.cells #[vi ki r.1, .string r.2.1, vi ki r.2.2] 59)) W1.heap.size [vi ki r.1, .string r.2.1, vi ki r.2.2]) := by have q := Bx.new (W1.setCell ⟨g, 0, none⟩ (.slice (some ⟨W1.heap.size, 0, none⟩) 1 1)) [vi ki r.1, .string r.2.1, vi ki r.2.2] 59; rw [show (W1.setCell ⟨g, 0, none⟩ (.slice (some ⟨W1.heap.size, 0, none⟩) 1 1)).heap.size = W1.heap.size by simp] at q; exact q
  have hw1 : w.heap.size + 1 < W1.heap.size := hj
  go_wp2_with fail
  refine (rfail_raw g _ _ 30 pa r.2.2 _ X1.out).mono ?_
  rintro e W2 ⟨rfl, hk2, hb2⟩
  have K2 : Hid (Kp g w W2) := X2.out.trans hk2
  have H3 : Hid (Bx W2 w.heap.size [vi ki 0, .string ⟨#[]⟩, .slice none 0 0, vi ki 0]) := hk2.bx X3.out (by omega)
  have H4 : Hid (Bx W2 W1.heap.size [vi ki r.1, .string r.2.1, vi ki r.2.2]) := hk2.bx X4.out (by omega)
  have HF : Hid (RF g b (w.heap.size + 1) W2 r.2.2 30) := ⟨W1.heap.size, 0, 1, 1, d, r.1, r.2.2, r.2.1, .inr (by omega), hb2, Nat.le_refl _, Nat.le_refl _, by unfold maxLen; omega, by omega, H4.out.1, hsz, trivial, H4.out.c 0 rfl, H4.out.c 1 rfl, H4.out.c 2 rfl⟩
  clear hk2 hb2 X0 X1 X2 X3 X4 K1 H1 H2 G1 j0 j1 j2 hj cg0 fg0 hg1 H4
  obtain ⟨y0', y1', y2', y3', HFK, HFO, HFS, rr0, rr1, rr2, rr3, rf0, rf1, rf2, rf3, hrw'⟩ := fin9 (vi ki 0) (.string ⟨#[]⟩) (.slice none 0 0) (vi ki 0) K2.out (Nat.le_refl _) (H3.out)
  go_wp2
  refine bodyPost_ret (v := .agg #[vi ki 0, .string ⟨#[]⟩, .slice none 0 0, vi ki 0]) (by simp [results, Tryd.results58, go_sem, y0', y1', y2', y3']) rfl ⟨HFK.out, by decide, (HF.out.off HFO.out HFS.out (by omega) (by omega) (by omega)).mono (by omega), _, _, _, _, _, _, rfl⟩
theorem rprim_deep (g b cap : Nat) (T : List Tk) (r : Tk) (l : List Tk) (d : Nat) (hd : d ≤ 20) (hGT : Hid (∀ x ∈ T, GoodT x)) (hk : r.1 = 4) (hw : r.2.1 = b1 40) (hd20 : d = 20) (w : World) (h : RS g b cap T w (r :: l) d) (hGr : GoodT r) (hL : EndL (mL l)) :
  Calls Tryd.prog 58 #[.pointer (some ⟨g, 0, none⟩)] w fun e w' => Kp g w w' ∧ ROut g b w.heap.size cap T (fun c => w.heap.size ≤ c) w' d e (.no r.2.2 31) := by
 have g1 : (r.1 == 1) = false := by rw [hk]; rfl
 have g3 : (r.1 == 3) = false := by rw [hk]; rfl
 have g4 : (r.1 == 4) = true := by rw [hk]; rfl
 have g1p : (r.1 = 1) = False := eq_false (by omega)
 have g3p : (r.1 = 3) = False := eq_false (by omega)
 have g4p : (r.1 = 4) = True := eq_true hk
 have m1 : (r.2.1.toList == [40]) = true := (lit_eq _ [40]).trans (decide_eq_true hw)
 have HK : Hid _ := hk
 clear hk hw
 have hl1 : 1 ≤ l.length := by obtain ⟨q, l', rfl⟩ := mL_none hL; simp
 have HL : Hid (EndL (mL l)) := hL
 have hg := h.lt
 have hbl := h.tr.1
 have HGr : Hid (GoodT r) := hGr
 have hsz := hGr.size
 obtain ⟨pre, pa, cg0, cg1, cg2, fg0, fg1, t0, t1, t2, hgW, hbW, hlen, hmost, hle, hne, HEQ, HBX, HTR⟩ := RS.facts (h)
 clear h hL hGr
 have hcp : ¬ cap - pre.length = 1 := by omega
 obtain ⟨KA, KB1, KB2, KR⟩ := prim_open HTR.out HEQ.out hne hle hmost HBX.out
 go_enter Tryd.func58, Tryd.ntmps58
 go_wp2_with fail
 refine (rlower_any r.2.1 (by omega) _).mono ?_
 rintro e W1 ⟨rfl, hb⟩
 have K1 : Hid (Kp g w W1) := KA.out.trans (Kp.of hb)
 have H1 : Hid (Bx W1 w.heap.size [vi ki 0, .string ⟨#[]⟩, .slice none 0 0, vi ki 0]) := KB1.out.below hb
 have H2 : Hid (Bx W1 (w.heap.size + 1) [vi ki r.1, .string r.2.1, vi ki r.2.2]) := KB2.out.below hb
 have Q1 : Hid (RS g b cap T W1 l d) := KR.out.below hb
 clear hb KA KB1 KB2 KR hcp cg0 cg1 cg2 fg0 fg1 t0 t1 t2 hgW hbW hlen hmost hle HEQ HBX HTR hne
 have j0 := H2.out.c 0 rfl
 have j1 := H2.out.c 1 rfl
 have j2 := H2.out.c 2 rfl
 have hj := H2.out.1
 subst hd20
 obtain ⟨q, l0, hq⟩ := mL_none HL.out
 have hgq := (hq ▸ Q1.out).good hGT.out
 have HIn : Hid _ := rinner_no g b (w.heap.size + 1) cap T l0 q hgq.size r.2.2 W1 (hq ▸ Q1.out)
 clear hgq hq
 go_wp2_with fail
 refine Calls.mono HIn.out ?_
 rintro e W6 ⟨rfl, hk6, hf6⟩
 have K9 : Hid (Kp g w W6) := K1.out.trans hk6
 have H9 : Hid (Bx W6 w.heap.size [vi ki 0, .string ⟨#[]⟩, .slice none 0 0, vi ki 0]) := hk6.bx H1.out (by omega)
 have HF6 : Hid (RF g b (w.heap.size + 1) W6 r.2.2 31) := hf6
 clear hk6 hf6 HIn
 obtain ⟨y0', y1', y2', y3', HFK, HFO, HFS, rr0, rr1, rr2, rr3, rf0, rf1, rf2, rf3, hrw'⟩ := fin9 (vi ki 0) (.string ⟨#[]⟩) (.slice none 0 0) (vi ki 0) K9.out (Nat.le_refl _) (H9.out)
 go_wp2
 refine bodyPost_ret (v := .agg #[vi ki 0, .string ⟨#[]⟩, .slice none 0 0, vi ki 0]) (by simp [results, Tryd.results58, go_sem, y0', y1', y2', y3']) rfl ⟨HFK.out, by decide, (HF6.out.off HFO.out HFS.out (by omega) (by omega) (by omega)).mono (by omega), _, _, _, _, _, _, rfl⟩
end Go.Proofs.YtaoocecipacnhaaDoor
