import Derived.Test.YtaoocecipacnhaaDoorWz
import Derived.Test.YtaoocecipacnhaaDoorW5
import Derived.Deep.RegionHeld3
open Go.Value renaming int → vi
open Go.IntKind renaming i64 → ki
open List renaming setIfInBounds_toArray → zb, set_cons_zero → zc, set_cons_succ → zd
open Go.Act renaming put → za
open Go.Ending renaming returned → zr
set_option maxRecDepth 100000
set_option maxHeartbeats 16000000
set_option linter.unusedVariables false
namespace Go.Proofs.YtaoocecipacnhaaDoor
open Go.RowKit
theorem gen_anyH {P : Program} {md : Region.Mode} {ops : Array Oper} {Q : Exit → Act → World → Prop} {S : World → Prop} {fuel : Nat} {listed : Array Bool} {a : Act} {w1 : World} (T : World → Prop) (h : T w1)
  (k : ∀ w2, T w2 → wpAnyH P md ops Q S fuel listed a w2) : wpAnyH P md ops Q S fuel listed a w1 := k _ h
def LvOk (g b cap : Nat) (T : List Tk) (K lev N : Nat) : Prop :=
 ∀ (w : World) (L : List Tk) (d f : Nat), PS g b cap T w L d → EndL L → d ≤ 20 → L.length ≤ N → need (.lv lev) L ≤ f →
  Calls Tryd.prog K #[.pointer (some ⟨g, 0, none⟩)] w fun e w' => Kp g w w' ∧ Out g b cap T (fun c => w.heap.size ≤ c) w' d e (par f (.lv lev) d L)
theorem LvOk.mono {g b cap : Nat} {T : List Tk} {K lev N M : Nat} (h : LvOk g b cap T K lev N) (hM : M ≤ N) : LvOk g b cap T K lev M := by
 intro w L d f h1 h2 h3 h4 h5
 exact h w L d f h1 h2 h3 (by omega) h5
def CS (g b cap : Nat) (T : List Tk) (w : World) (B d : Nat) (L : List Tk) (n : Nd) (c0 c1 c2 c3 : Value) (V : World) : Prop :=
 Kp g w V ∧ Bx V w.heap.size [vi ki 0, .string ⟨#[]⟩, .slice none 0 0, vi ki 0] ∧ Bx V B [c0, c1, c2, c3] ∧ PS g b cap T V L d ∧ NdAt (fun c => w.heap.size + 1 ≤ c ∧ c ≠ B) V n [c0, c1, c2, c3] ∧ w.heap.size + 1 ≤ B ∧ EndL L
theorem PS.drew {g b cap : Nat} {T : List Tk} {w : World} {L : List Tk} {d : Nat} (h : PS g b cap T w L d) : PS g b cap T w.drew L d := h.keep (Nat.le_refl _) (fun _ _ => rfl)
theorem NdAt.drew {X : Nat → Prop} {w : World} {n : Nd} {cs : List Value} (h : NdAt X w n cs) : NdAt X w.drew n cs := NdAt.keep (w := w) (W := w.drew) (Nat.le_refl _) (fun b hb _ => ⟨hb, rfl⟩) _ _ h
theorem CS.drew {g b cap : Nat} {T : List Tk} {w : World} {B d : Nat} {L : List Tk} {n : Nd} {c0 c1 c2 c3 : Value} {V : World} (h : CS g b cap T w B d L n c0 c1 c2 c3 V) : CS g b cap T w B d L n c0 c1 c2 c3 V.drew :=
 ⟨h.1.drew, h.2.1, h.2.2.1, h.2.2.2.1.drew, h.2.2.2.2.1.drew, h.2.2.2.2.2⟩
theorem CS.kp {g b cap : Nat} {T : List Tk} {w : World} {B d : Nat} {L L' : List Tk} {n : Nd} {c0 c1 c2 c3 : Value} {V V' : World} (h : CS g b cap T w B d L n c0 c1 c2 c3 V) (hg : g < w.heap.size) (hk : Kp g V V') (hp : PS g b cap T V' L' d) (he : EndL L') : CS g b cap T w B d L' n c0 c1 c2 c3 V' :=
 ⟨h.1.trans hk, hk.bx h.2.1 (by omega), hk.bx h.2.2.1 (by have := h.2.2.2.2.2.1; omega), hp, h.2.2.2.2.1.kp hk (fun c hc => ⟨hc, by omega⟩), h.2.2.2.2.2.1, he⟩
theorem CS.put {g b cap : Nat} {T : List Tk} {w : World} {B d : Nat} {L L' : List Tk} {n n' : Nd} {c0 c1 c2 c3 d0 d1 d2 d3 : Value} {V V' : World} (h : CS g b cap T w B d L n c0 c1 c2 c3 V) (hg : g < w.heap.size) (hbl : b < w.heap.size) (hk : Kp g V V') (hp : PS g b cap T V' L' d) (he : EndL L')
  (hn : NdAt (fun c => (w.heap.size + 1 ≤ c ∧ c ≠ B) ∨ V.heap.size ≤ c) V' n' [d0, d1, d2, d3]) : CS g b cap T w B d L' n' d0 d1 d2 d3 (V'.setCells B 0 [d0, d1, d2, d3]) := by
 have hB := h.2.2.1.1
 have hB2 := h.2.2.2.2.2.1
 have hB' := hk.bx h.2.2.1 (by omega)
 obtain ⟨q1, q2, q3, q4⟩ := fin4 [] d0 d1 d2 d3 (h.1.trans hk) (by omega) hB'
 have hz := h.1.size
 have hz2 := h.2.1.1
 exact ⟨q1, (hk.bx h.2.1 (by omega)).setOther (by omega) _, q2, hp.off q3 q4 (by omega) (by omega), hn.off q3 q4 (fun c hc => ⟨by omega, by omega⟩), hB2, he⟩
def lenAt (g : Nat) (W : World) : Nat := match W.cell? ⟨g, 0, none⟩ with | some (.slice _ n _) => n | _ => 0
theorem PS.len {g b cap : Nat} {T : List Tk} {w : World} {L : List Tk} {d : Nat} (h : PS g b cap T w L d) : lenAt g w = L.length := by
 obtain ⟨_, _, _, _, hb⟩ := h.bx
 unfold lenAt; rw [hb.c 0 rfl]
def msr (g : Nat) (v : Value) (W : World) : Nat := match v with | .bool true => lenAt g W + 1 | _ => 0
theorem msr_true (g : Nat) (W : World) : msr g (.bool true) W = lenAt g W + 1 := rfl
theorem msr_false (g : Nat) (W : World) : msr g (.bool false) W = 0 := rfl
def CF (g : Nat) (w : World) (B d : Nat) (ea er : Int) (W : World) : Prop := Kp g w W ∧ Bx W w.heap.size [vi ki 0, .string ⟨#[]⟩, .slice none 0 0, vi ki 0] ∧ Bx W B [vi ki 0, .string ⟨#[]⟩, .slice none 0 0, vi ki 0] ∧ PF g W d ea er
theorem CF.drew {g : Nat} {w : World} {B d : Nat} {ea er : Int} {W : World} (h : CF g w B d ea er W) : CF g w B d ea er W.drew := ⟨h.1.drew, h.2⟩
theorem CS.fail {g b cap : Nat} {T : List Tk} {w : World} {B d : Nat} {L : List Tk} {n : Nd} {c0 c1 c2 c3 : Value} {V V' : World} {ea er : Int} (h : CS g b cap T w B d L n c0 c1 c2 c3 V) (hg : g < w.heap.size) (hk : Kp g V V') (hf : PF g V' d ea er) : CF g w B d ea er (V'.setCells B 0 [vi ki 0, .string ⟨#[]⟩, .slice none 0 0, vi ki 0]) := by
 have hB := h.2.2.1.1
 have hB2 := h.2.2.2.2.2.1
 have hB' := hk.bx h.2.2.1 (by omega)
 obtain ⟨q1, q2, q3, q4⟩ := fin4 [] (vi ki 0) (.string ⟨#[]⟩) (.slice none 0 0) (vi ki 0) (h.1.trans hk) (by omega) hB'
 exact ⟨q1, (hk.bx h.2.1 (by omega)).setOther (by omega) _, q2, hf.off q3 q4 (by omega)⟩
theorem chain_any (g b cap : Nat) (T : List Tk) (KF : Nat) (hEKF : ∀ args w, (callFunc KF args).run Tryd.prog w = .ok (.enter KF args) w) (lev N : Nat) (hlev : lev = 0 ∨ lev = 1 ∨ lev = 4 ∨ lev = 5) (Z : List (Int × ByteArray)) (hZ : Hid (Z = sgs lev)) (hzl : Z.length ≤ 100) (bs cp : Nat) (hcp : cp ≤ 9223372036854775807) (hzc : Z.length ≤ cp) (HM : Hid (LvOk g b cap T KF (lev + 1) N)) (w : World) (L : List Tk) (d f : Nat) (h : PS g b cap T w L d) (hL : EndL L) (hd : d ≤ 20) (hN : L.length ≤ N) (hf : need (.lv lev) L ≤ f) (hbs : Bx w bs (fl2 Z)) (hbg : bs ≠ g) :
  Calls Tryd.prog 50 #[.pointer (some ⟨g, 0, none⟩), .func (.func KF) #[.pointer (some ⟨g, 0, none⟩)] #[], .slice (some ⟨bs, 0, none⟩) Z.length cp] w fun e w' => Kp g w w' ∧ Out g b cap T (fun c => w.heap.size ≤ c) w' d e (par f (.lv lev) d L) := by
 obtain ⟨f, rfl⟩ : ∃ f', f = f' + 1 := ⟨f - 1, by obtain ⟨p, l, rfl⟩ := hL.cons; simp only [need, List.length_cons] at hf; omega⟩
 obtain ⟨p, l, rfl⟩ := hL.cons
 have eP : par (f + 1) (.lv lev) d (p :: l) = match par f (.lv (lev + 1)) d (p :: l) with | .ok n l1 => par f (.lp lev n) d l1 | .no a e => .no a e := by
  rw [par_succ]; unfold pst; dsimp only
  rw [if_neg (by omega), if_neg (by omega), if_neg (by omega), if_neg (by omega), if_neg (by omega), if_neg (by omega)]
  cases par f (.lv (lev + 1)) d (p :: l) <;> rfl
 simp only [need, List.length_cons] at hf
 have hok : okTg (.lv (lev + 1)) := by simp only [okTg]; omega
 have hf1 : need (.lv (lev + 1)) (p :: l) ≤ f := by simp only [need, List.length_cons]; omega
 have HC : Hid (∀ V : World, PS g b cap T V (p :: l) d → Calls Tryd.prog KF #[.pointer (some ⟨g, 0, none⟩)] V fun e w' => Kp g V w' ∧ Out g b cap T (fun c => V.heap.size ≤ c) w' d e (par f (.lv (lev + 1)) d (p :: l))) := fun V hV => HM.out V _ d f hV hL hd hN hf1
 obtain ⟨R, hR⟩ : ∃ R, R = par (f + 1) (.lv lev) d (p :: l) := ⟨_, rfl⟩
 rw [← hR]
 rw [eP] at hR
 have HZ : Hid (Bx w bs (fl2 Z)) := hbs
 have hbs' := hbs.1
 clear eP hbs
 cases hr : par f (.lv (lev + 1)) d (p :: l) with
 | no ea er =>
  rw [hr] at HC hR
  have HR0 : Hid (R = .no ea er) := hR
  clear hR hr
  have HP : Hid _ := h
  have hg := h.lt
  have hbl := h.tr.1
  clear h
  go_enter Tryd.func50, Tryd.ntmps50
  go_wp2_with fail
  have B0 : Hid (BS w [(w.heap.size, [vi ki 0, .string ⟨#[]⟩, .slice none 0 0, vi ki 0])] _) := ((BS.start w).new [vi ki 0, .string ⟨#[]⟩, .slice none 0 0, vi ki 0] 24 rfl)
  refine (HC.out _ (HP.out.below B0.out.1)).mono ?_
  rintro e W1 ⟨hk, ho⟩
  have hz1 : w.heap.size + 1 ≤ W1.heap.size := by have := hk.size; (try simp at this); omega
  have K1 : Hid (Kp g w W1) := (Kp.of B0.out.1).trans hk
  have H1_0 : Hid (Bx W1 (w.heap.size) [vi ki 0, .string ⟨#[]⟩, .slice none 0 0, vi ki 0]) := hk.bx (B0.out.at (w.heap.size) [vi ki 0, .string ⟨#[]⟩, .slice none 0 0, vi ki 0] (by simp)) (by omega)
  clear B0
  obtain ⟨hf, rfl⟩ := ho
  have HF : Hid (PF g W1 d ea er) := hf
  clear hf hk
  have HS0 : Hid ((fun W => Kp g w W ∧ Bx W w.heap.size [vi ki 0, .string ⟨#[]⟩, .slice none 0 0, vi ki 0] ∧ Bx W W1.heap.size [vi ki 0, .string ⟨#[]⟩, .slice none 0 0, vi ki 0] ∧ PF g W d ea er) (W1.alloc (.cells #[vi ki 0, .string ⟨#[]⟩, .slice none 0 0, vi ki 0] 24))) := ⟨K1.out.alloc _, H1_0.out.alloc _, Bx.new W1 [vi ki 0, .string ⟨#[]⟩, .slice none 0 0, vi ki 0] _, HF.out.keep (by simp) (Below.heap_alloc _ _ _ (by obtain ⟨_, h, _⟩ := HF.out; exact h.1))⟩
  obtain ⟨B, hB⟩ : ∃ B, B = W1.heap.size := ⟨_, rfl⟩
  have hB1 : w.heap.size + 1 ≤ B := by omega
  clear K1 H1_0 hz1 HF HC HP
  go_wp2_with fail
  rw [← hB] at HS0
  rw [← hB]
  clear hB
  go_loopw [9] (fun v W => v = .bool false ∧ Hid (CF g w B d ea er W)) (fun _ _ => 0)
  case atStart => exact ⟨rfl, HS0.out⟩
  case round =>
   obtain ⟨rfl, HW⟩ := hrel
   have K9 : Hid (Kp g w wr) := HW.out.1
   have H9 : Hid (Bx wr w.heap.size _) := HW.out.2.1
   have H8 : Hid (Bx wr B _) := HW.out.2.2.1
   have HF : Hid (PF g wr d ea er) := HW.out.2.2.2
   clear HW HS0
   obtain ⟨x0, x1, x2, x3⟩ := H8.out.d4
   obtain ⟨y0', y1', y2', y3', HFK, HFO, HFS, r0, r1, r2, r3, s0, s1, s2, s3, hrw'⟩ := fin9 (vi ki 0) (.string ⟨#[]⟩) (.slice none 0 0) (vi ki 0) K9.out (by omega) (H9.out)
   go_wp2
   refine bodyPost_ret (v := .tuple #[.agg #[vi ki 0, .string ⟨#[]⟩, .slice none 0 0, vi ki 0], .bool false]) (by simp [results, Tryd.results50, go_sem, y0', y1', y2', y3']) rfl ⟨HFK.out, by rw [HR0.out]; exact ⟨PF.off HF.out HFO.out HFS.out (by omega), rfl⟩⟩
 | ok n0 l0 =>
  rw [hr] at HC hR
  have hls := par_less hok hL hf1 hr
  have hls2 := hls.2
  simp only [most, List.length_cons] at hls2
  have HE0 : Hid (EndL l0) := hls.1
  have HR0 : Hid (par f (.lp lev n0) d l0 = R) := hR.symm
  clear hR hr hls
  have HP : Hid _ := h
  have hg := h.lt
  have hbl := h.tr.1
  clear h
  go_enter Tryd.func50, Tryd.ntmps50
  go_wp2_with fail
  have B0 : Hid (BS w [(w.heap.size, [vi ki 0, .string ⟨#[]⟩, .slice none 0 0, vi ki 0])] _) := ((BS.start w).new [vi ki 0, .string ⟨#[]⟩, .slice none 0 0, vi ki 0] 24 rfl)
  refine (HC.out _ (HP.out.below B0.out.1)).mono ?_
  rintro e W1 ⟨hk, ho⟩
  have hz1 : w.heap.size + 1 ≤ W1.heap.size := by have := hk.size; (try simp at this); omega
  have K1 : Hid (Kp g w W1) := (Kp.of B0.out.1).trans hk
  have H1_0 : Hid (Bx W1 (w.heap.size) [vi ki 0, .string ⟨#[]⟩, .slice none 0 0, vi ki 0]) := hk.bx (B0.out.at (w.heap.size) [vi ki 0, .string ⟨#[]⟩, .slice none 0 0, vi ki 0] (by simp)) (by omega)
  clear B0
  obtain ⟨hps, hend, k0, u0, sq0, sn0, sc0, a0, rfl, hnd⟩ := ho
  have HS0 : Hid (CS g b cap T w W1.heap.size d l0 n0 (vi ki k0) (.string u0) (.slice sq0 sn0 sc0) (vi ki a0) (W1.alloc (.cells #[vi ki k0, .string u0, .slice sq0 sn0 sc0, vi ki a0] 24))) := by
   refine ⟨K1.out.alloc _, H1_0.out.alloc _, Bx.new W1 [vi ki k0, .string u0, .slice sq0 sn0 sc0, vi ki a0] _, hps.below ((Below.refl _ _).alloc (Nat.le_refl _) _), ?_, by omega, hend⟩
   exact NdAt.keep (by simp) (fun c hc hl => ⟨⟨by (try simp at hc); omega, by omega⟩, Below.heap_alloc _ _ _ hl⟩) _ _ hnd
  have hBw : bs < w.heap.size := hbs'
  obtain ⟨B, hB⟩ : ∃ B, B = W1.heap.size := ⟨_, rfl⟩
  have hB1 : w.heap.size + 1 ≤ B := by omega
  clear hps hend hnd hk K1 H1_0 hz1 HC HP
  go_wp2_with fail
  rw [← hB] at HS0
  rw [← hB]
  clear hB
  go_loopw [9] (fun v W => (∃ (n : Nd) (l1 : List Tk) (f1 : Nat) (k : Int) (t : ByteArray) (sq : Option Addr) (sn sc : Nat) (a : Int), Hid (CS g b cap T w B d l1 n (vi ki k) (.string t) (.slice sq sn sc) (vi ki a) W) ∧ v = .bool true ∧ l1.length ≤ N ∧ Hid (10 * l1.length + 1 ≤ f1) ∧ Hid (par f1 (.lp lev n) d l1 = R)) ∨ (v = .bool false ∧ ∃ ea er, Hid (CF g w B d ea er W) ∧ Hid (R = .no ea er))) (fun v W => msr g v W)
  case atStart => exact .inl ⟨n0, l0, f, _, _, _, _, _, _, HS0, rfl, by simp only [List.length_cons] at hN; omega, by show _ ≤ _; omega, HR0⟩
  case round =>
   clear HS0 HR0 HE0
   rcases hrel with ⟨n, l1, f1, k, t, sq, sn, sc, a, KK, rfl, hN1, HF0, HR0⟩ | ⟨rfl, ea, er, KK, HR0⟩
   ·obtain ⟨q, l, rfl⟩ := KK.out.2.2.2.2.2.2.cons
    obtain ⟨f1, rfl⟩ : ∃ f', f1 = f' + 1 := ⟨f1 - 1, by have := HF0.out; omega⟩
    have HPL : Hid (lenAt g wr = (q :: l).length) := KK.out.2.2.2.1.len
    have hwr : B < wr.heap.size := KK.out.2.2.1.1
    have hwr2 : w.heap.size < wr.heap.size := KK.out.2.1.1
    have HF2 : Hid (10 * l.length + 10 ≤ f1) := by have := HF0.out; simp only [List.length_cons] at this; show _ ≤ _; omega
    clear HF0
    go_wp2_with fail
    refine (is_any g b cap T q l d Z bs cp _ KK.out.2.2.2.1 hzl hcp hzc (KK.out.1.bx HZ.out hbg)).mono ?_
    rintro e W2 ⟨rfl, hb⟩
    have KB2 : Hid (CS g b cap T w B d (q :: l) n (vi ki k) (.string t) (.slice sq sn sc) (vi ki a) W2) := KK.out.kp hg (Kp.of hb) (KK.out.2.2.2.1.below hb) KK.out.2.2.2.2.2.2
    have hwr3 : B < W2.heap.size := KB2.out.2.2.1.1
    have hwr4 : w.heap.size < W2.heap.size := KB2.out.2.1.1
    have HPL2 : Hid (lenAt g W2 = lenAt g wr) := by show _ = _; rw [KB2.out.2.2.2.1.len, HPL.out]
    clear hb KK
    by_cases hi : isT q Z = true
    ·rw [hi]
     have hk0 : q.1 ≠ 0 := isT_kind hi (by rw [hZ.out]; exact sgs_kind lev)
     have hEl : EndL l := EndL.tail KB2.out.2.2.2.2.2.2 hk0
     obtain ⟨r, l2, rfl⟩ := hEl.cons
     have HE2 : Hid (EndL (r :: l2)) := hEl
     simp only [List.length_cons] at hN1
     have hf2 : need (.lv (lev + 1)) (r :: l2) ≤ f1 := by have := HF2.out; simp only [need, List.length_cons] at this ⊢; omega
     have HMr0 : Hid (∀ V : World, PS g b cap T V (r :: l2) d → Calls Tryd.prog KF #[.pointer (some ⟨g, 0, none⟩)] V fun e w' => Kp g V w' ∧ Out g b cap T (fun c => V.heap.size ≤ c) w' d e (par f1 (.lv (lev + 1)) d (r :: l2))) := fun V hV => HM.out V _ d f1 hV HE2.out hd (by simp only [List.length_cons]; omega) hf2
     have eL : par (f1 + 1) (.lp lev n) d (q :: r :: l2) = match par f1 (.lv (lev + 1)) d (r :: l2) with | .ok m l1 => par f1 (.lp lev (.mk 8 q.2.1 [n, m] q.2.2)) d l1 | .no a e => .no a e := by
      rw [par_succ]; unfold pst; dsimp only; rw [← hZ.out, if_pos hi]; cases par f1 (.lv (lev + 1)) d (r :: l2) <;> rfl
     have hR1 := HR0.out
     rw [eL] at hR1
     clear eL hEl HR0
     cases hr : par f1 (.lv (lev + 1)) d (r :: l2) with
     | ok m l3 =>
      rw [hr] at HMr0 hR1
      have HMr : Hid _ := HMr0
      have hls := (par_less hok HE2.out hf2 hr).2
      simp only [most, List.length_cons] at hls
      have HR1 : Hid (par f1 (.lp lev (.mk 8 q.2.1 [n, m] q.2.2)) d l3 = R) := hR1
      have HF1 : Hid (10 * l3.length + 1 ≤ f1) := by have := HF2.out; simp only [List.length_cons] at this; show _ ≤ _; omega
      have KK : Hid (CS g b cap T w B d (q :: r :: l2) n (vi ki k) (.string t) (.slice sq sn sc) (vi ki a) W2) := KB2
      simp only [List.length_cons] at HPL
      clear hR1 hr HMr0 KB2
      go_wp2_with fail
      refine wp_region_held_drew (S := fun _ => True) (by kernel_rfl) trivial (fun hHeld => ?_)
      refine tks 0 ⟨some 22, _, _, _, _, none⟩ rfl ?_
      simp only [za, zb, zc, zd]
      refine tks 2 ⟨some 24, _, _, _, _, none⟩ rfl ?_
      simp only [za, zb, zc, zd]
      refine tks 4 ⟨some 26, _, _, _, _, none⟩ rfl ?_
      simp only [za, zb, zc, zd]
      refine wpAnyH_ready (rs := [1, 3]) (by kernel_rfl) (by simp) (AllReadyH.cons (o := ⟨some 23, _, _, _, _, none⟩) rfl (fun K hK => ?_) (AllReadyH.cons (o := ⟨some 25, _, _, _, _, none⟩) rfl (fun K hK => ?_) AllReadyH.nil))
      ·
       obtain ⟨l0, l1', l2, l3⟩ := KK.out.2.2.1.d4
       go_simp
       refine hK.out _ _ trivial (fun hHeld => ?_)
       clear hK K l0 l1' l2 l3
       refine rd 3 ⟨some 25, _, _, _, _, none⟩ rfl (fun K hK => ?_)
       go_simp
       refine (next_any g b cap T q r l2 d _ (by first | exact KK.out.2.2.2.1 | exact KK.out.drew.2.2.2.1)).mono ?_
       rintro e v2 ⟨rfl, hk2, hp2⟩
       refine hK.out _ _ trivial (fun hHeld => ?_)
       replace KK : Hid (CS g b cap T w B d (r :: l2) n (vi ki k) (.string t) (.slice sq sn sc) (vi ki a) v2) := by first | exact KK.out.kp hg hk2 hp2 HE2.out | exact KK.out.drew.kp hg hk2 hp2 HE2.out
       clear hK K hk2 hp2
       refine rd 5 ⟨some 27, _, _, _, _, none⟩ rfl (fun K hK => ?_)
       go_simp
       refine (op_ok g b cap T KF hEKF (r :: l2) d k t sq sn sc a q.1 q.2.1 q.2.2 n m l3 (fun c => w.heap.size + 1 ≤ c ∧ c ≠ B) (fun c hc => by omega) HMr _ (by first | exact KK.out.2.2.2.1 | exact KK.out.drew.2.2.2.1) (by first | exact KK.out.2.2.2.2.1 | exact KK.out.drew.2.2.2.2.1)).mono ?_
       rintro e v3 ⟨hk3, hps, hend, k2, u2, sq2, sn2, sc2, a2, rfl, hnd⟩
       refine hK.out _ _ trivial (fun hHeld => ?_)
       have KP : Hid (CS g b cap T w B d l3 (.mk 8 q.2.1 [n, m] q.2.2) (vi ki k2) (.string u2) (.slice sq2 sn2 sc2) (vi ki a2) (v3.setCells B 0 [vi ki k2, .string u2, .slice sq2 sn2 sc2, vi ki a2])) := by first | exact KK.out.put hg hbl hk3 hps hend hnd | exact KK.out.drew.put hg hbl hk3 hps hend hnd
       have hB8 : Bx v3 B [vi ki k, .string t, .slice sq sn sc, vi ki a] := by first | exact hk3.bx KK.out.2.2.1 (by omega) | exact hk3.bx KK.out.drew.2.2.1 (by omega)
       have HB8 : Hid (Bx v3 B _) := hB8
       simp only [World.setCells, Nat.zero_add, Nat.reduceAdd] at KP
       clear hK K hk3 hps hend hnd KK hB8
       refine tks 6 ⟨some 21, _, _, _, _, none⟩ rfl ?_
       simp only [za, zb, zc, zd]
       refine tks 7 ⟨some 28, _, _, _, _, none⟩ rfl ?_
       simp only [za, zb, zc, zd]
       refine tks 8 ⟨some 29, _, _, _, _, none⟩ rfl ?_
       simp only [za, zb, zc, zd]
       refine rd 9 ⟨none, _, _, _, _, none⟩ rfl (fun K hK => ?_)
       obtain ⟨l0, l1', l2', l3', z0, z1, z2, z3⟩ := HB8.out.cf4
       have hB9 := HB8.out.1
       go_simp
       refine hK.out _ _ trivial (fun hHeld => ?_)
       refine gen_anyH (CS g b cap T w B d l3 (.mk 8 q.2.1 [n, m] q.2.2) (vi ki k2) (.string u2) (.slice sq2 sn2 sc2) (vi ki a2)) (by first | exact KP.out | exact KP.out.drew) ?_
       clear hHeld hK K KP l0 l1' l2' l3' z0 z1 z2 z3 HB8 hB9
       intro v4 KK'
       have KK : Hid (CS g b cap T w B d l3 (.mk 8 q.2.1 [n, m] q.2.2) (vi ki k2) (.string u2) (.slice sq2 sn2 sc2) (vi ki a2) v4) := KK'
       clear KK'
       have hHeld : True := trivial
       refine tks 10 ⟨some 9, _, _, _, _, none⟩ rfl ?_
       simp only [za, zb, zc, zd]
       refine wpAnyH_done (by kernel_rfl) ?_ _
       go_wp2_with fail
       exact ⟨.inl ⟨_, l3, f1, _, _, _, _, _, _, KK, rfl, by omega, HF1.out, HR1.out⟩, by rw [msr_true, msr_true, KK.out.2.2.2.1.len, HPL.out]; omega⟩
      ·
       go_simp
       refine (next_any g b cap T q r l2 d _ (by first | exact KK.out.2.2.2.1 | exact KK.out.drew.2.2.2.1)).mono ?_
       rintro e v5 ⟨rfl, hk5, hp5⟩
       refine hK.out _ _ trivial (fun hHeld => ?_)
       replace KK : Hid (CS g b cap T w B d (r :: l2) n (vi ki k) (.string t) (.slice sq sn sc) (vi ki a) v5) := by first | exact KK.out.kp hg hk5 hp5 HE2.out | exact KK.out.drew.kp hg hk5 hp5 HE2.out
       clear hK K hk5 hp5
       refine rd 1 ⟨some 23, _, _, _, _, none⟩ rfl (fun K hK => ?_)
       obtain ⟨l0, l1', l2, l3⟩ := KK.out.2.2.1.d4
       go_simp
       refine hK.out _ _ trivial (fun hHeld => ?_)
       clear hK K l0 l1' l2 l3
       refine rd 5 ⟨some 27, _, _, _, _, none⟩ rfl (fun K hK => ?_)
       go_simp
       refine (op_ok g b cap T KF hEKF (r :: l2) d k t sq sn sc a q.1 q.2.1 q.2.2 n m l3 (fun c => w.heap.size + 1 ≤ c ∧ c ≠ B) (fun c hc => by omega) HMr _ (by first | exact KK.out.2.2.2.1 | exact KK.out.drew.2.2.2.1) (by first | exact KK.out.2.2.2.2.1 | exact KK.out.drew.2.2.2.2.1)).mono ?_
       rintro e v7 ⟨hk7, hps, hend, k2, u2, sq2, sn2, sc2, a2, rfl, hnd⟩
       refine hK.out _ _ trivial (fun hHeld => ?_)
       have KP : Hid (CS g b cap T w B d l3 (.mk 8 q.2.1 [n, m] q.2.2) (vi ki k2) (.string u2) (.slice sq2 sn2 sc2) (vi ki a2) (v7.setCells B 0 [vi ki k2, .string u2, .slice sq2 sn2 sc2, vi ki a2])) := by first | exact KK.out.put hg hbl hk7 hps hend hnd | exact KK.out.drew.put hg hbl hk7 hps hend hnd
       have hB8 : Bx v7 B [vi ki k, .string t, .slice sq sn sc, vi ki a] := by first | exact hk7.bx KK.out.2.2.1 (by omega) | exact hk7.bx KK.out.drew.2.2.1 (by omega)
       have HB8 : Hid (Bx v7 B _) := hB8
       simp only [World.setCells, Nat.zero_add, Nat.reduceAdd] at KP
       clear hK K hk7 hps hend hnd KK hB8
       refine tks 6 ⟨some 21, _, _, _, _, none⟩ rfl ?_
       simp only [za, zb, zc, zd]
       refine tks 7 ⟨some 28, _, _, _, _, none⟩ rfl ?_
       simp only [za, zb, zc, zd]
       refine tks 8 ⟨some 29, _, _, _, _, none⟩ rfl ?_
       simp only [za, zb, zc, zd]
       refine rd 9 ⟨none, _, _, _, _, none⟩ rfl (fun K hK => ?_)
       obtain ⟨l0, l1', l2', l3', z0, z1, z2, z3⟩ := HB8.out.cf4
       have hB9 := HB8.out.1
       go_simp
       refine hK.out _ _ trivial (fun hHeld => ?_)
       refine gen_anyH (CS g b cap T w B d l3 (.mk 8 q.2.1 [n, m] q.2.2) (vi ki k2) (.string u2) (.slice sq2 sn2 sc2) (vi ki a2)) (by first | exact KP.out | exact KP.out.drew) ?_
       clear hHeld hK K KP l0 l1' l2' l3' z0 z1 z2 z3 HB8 hB9
       intro v8 KK'
       have KK : Hid (CS g b cap T w B d l3 (.mk 8 q.2.1 [n, m] q.2.2) (vi ki k2) (.string u2) (.slice sq2 sn2 sc2) (vi ki a2) v8) := KK'
       clear KK'
       have hHeld : True := trivial
       refine tks 10 ⟨some 9, _, _, _, _, none⟩ rfl ?_
       simp only [za, zb, zc, zd]
       refine wpAnyH_done (by kernel_rfl) ?_ _
       go_wp2_with fail
       exact ⟨.inl ⟨_, l3, f1, _, _, _, _, _, _, KK, rfl, by omega, HF1.out, HR1.out⟩, by rw [msr_true, msr_true, KK.out.2.2.2.1.len, HPL.out]; omega⟩
     | no ea er =>
      rw [hr] at HMr0 hR1
      have HMr : Hid _ := HMr0
      have HR1 : Hid (R = .no ea er) := hR1.symm
      have KK : Hid (CS g b cap T w B d (q :: r :: l2) n (vi ki k) (.string t) (.slice sq sn sc) (vi ki a) W2) := KB2
      simp only [List.length_cons] at HPL
      clear hR1 hr HMr0 KB2
      go_wp2_with fail
      refine wp_region_held_drew (S := fun _ => True) (by kernel_rfl) trivial (fun hHeld => ?_)
      refine tks 0 ⟨some 22, _, _, _, _, none⟩ rfl ?_
      simp only [za, zb, zc, zd]
      refine tks 2 ⟨some 24, _, _, _, _, none⟩ rfl ?_
      simp only [za, zb, zc, zd]
      refine tks 4 ⟨some 26, _, _, _, _, none⟩ rfl ?_
      simp only [za, zb, zc, zd]
      refine wpAnyH_ready (rs := [1, 3]) (by kernel_rfl) (by simp) (AllReadyH.cons (o := ⟨some 23, _, _, _, _, none⟩) rfl (fun K hK => ?_) (AllReadyH.cons (o := ⟨some 25, _, _, _, _, none⟩) rfl (fun K hK => ?_) AllReadyH.nil))
      ·
       obtain ⟨l0, l1', l2, l3⟩ := KK.out.2.2.1.d4
       go_simp
       refine hK.out _ _ trivial (fun hHeld => ?_)
       clear hK K l0 l1' l2 l3
       refine rd 3 ⟨some 25, _, _, _, _, none⟩ rfl (fun K hK => ?_)
       go_simp
       refine (next_any g b cap T q r l2 d _ (by first | exact KK.out.2.2.2.1 | exact KK.out.drew.2.2.2.1)).mono ?_
       rintro e v2 ⟨rfl, hk2, hp2⟩
       refine hK.out _ _ trivial (fun hHeld => ?_)
       replace KK : Hid (CS g b cap T w B d (r :: l2) n (vi ki k) (.string t) (.slice sq sn sc) (vi ki a) v2) := by first | exact KK.out.kp hg hk2 hp2 HE2.out | exact KK.out.drew.kp hg hk2 hp2 HE2.out
       clear hK K hk2 hp2
       refine rd 5 ⟨some 27, _, _, _, _, none⟩ rfl (fun K hK => ?_)
       go_simp
       refine (op_no g b cap T KF hEKF (r :: l2) d k t sq sn sc a q.1 q.2.1 q.2.2 ea er HMr _ (by first | exact KK.out.2.2.2.1 | exact KK.out.drew.2.2.2.1)).mono ?_
       rintro e v3 ⟨hk3, hf, rfl⟩
       refine hK.out _ _ trivial (fun hHeld => ?_)
       have KP : Hid (CF g w B d ea er (v3.setCells B 0 [vi ki 0, .string ⟨#[]⟩, .slice none 0 0, vi ki 0])) := by first | exact KK.out.fail hg hk3 hf | exact KK.out.drew.fail hg hk3 hf
       have hB8 : Bx v3 B [vi ki k, .string t, .slice sq sn sc, vi ki a] := by first | exact hk3.bx KK.out.2.2.1 (by omega) | exact hk3.bx KK.out.drew.2.2.1 (by omega)
       have HB8 : Hid (Bx v3 B _) := hB8
       simp only [World.setCells, Nat.zero_add, Nat.reduceAdd] at KP
       clear hK K hk3 hf KK hB8
       refine tks 6 ⟨some 21, _, _, _, _, none⟩ rfl ?_
       simp only [za, zb, zc, zd]
       refine tks 7 ⟨some 28, _, _, _, _, none⟩ rfl ?_
       simp only [za, zb, zc, zd]
       refine tks 8 ⟨some 29, _, _, _, _, none⟩ rfl ?_
       simp only [za, zb, zc, zd]
       refine rd 9 ⟨none, _, _, _, _, none⟩ rfl (fun K hK => ?_)
       obtain ⟨l0, l1', l2', l3', z0, z1, z2, z3⟩ := HB8.out.cf4
       have hB9 := HB8.out.1
       go_simp
       refine hK.out _ _ trivial (fun hHeld => ?_)
       refine gen_anyH (CF g w B d ea er) (by first | exact KP.out | exact KP.out.drew) ?_
       clear hHeld hK K KP l0 l1' l2' l3' z0 z1 z2 z3 HB8 hB9
       intro v4 KK'
       have KK : Hid (CF g w B d ea er v4) := KK'
       clear KK'
       have hHeld : True := trivial
       refine tks 10 ⟨some 9, _, _, _, _, none⟩ rfl ?_
       simp only [za, zb, zc, zd]
       refine wpAnyH_done (by kernel_rfl) ?_ _
       go_wp2_with fail
       exact ⟨.inr ⟨rfl, ea, er, KK, HR1⟩, by rw [msr_false, msr_true]; omega⟩
      ·
       go_simp
       refine (next_any g b cap T q r l2 d _ (by first | exact KK.out.2.2.2.1 | exact KK.out.drew.2.2.2.1)).mono ?_
       rintro e v5 ⟨rfl, hk5, hp5⟩
       refine hK.out _ _ trivial (fun hHeld => ?_)
       replace KK : Hid (CS g b cap T w B d (r :: l2) n (vi ki k) (.string t) (.slice sq sn sc) (vi ki a) v5) := by first | exact KK.out.kp hg hk5 hp5 HE2.out | exact KK.out.drew.kp hg hk5 hp5 HE2.out
       clear hK K hk5 hp5
       refine rd 1 ⟨some 23, _, _, _, _, none⟩ rfl (fun K hK => ?_)
       obtain ⟨l0, l1', l2, l3⟩ := KK.out.2.2.1.d4
       go_simp
       refine hK.out _ _ trivial (fun hHeld => ?_)
       clear hK K l0 l1' l2 l3
       refine rd 5 ⟨some 27, _, _, _, _, none⟩ rfl (fun K hK => ?_)
       go_simp
       refine (op_no g b cap T KF hEKF (r :: l2) d k t sq sn sc a q.1 q.2.1 q.2.2 ea er HMr _ (by first | exact KK.out.2.2.2.1 | exact KK.out.drew.2.2.2.1)).mono ?_
       rintro e v7 ⟨hk7, hf, rfl⟩
       refine hK.out _ _ trivial (fun hHeld => ?_)
       have KP : Hid (CF g w B d ea er (v7.setCells B 0 [vi ki 0, .string ⟨#[]⟩, .slice none 0 0, vi ki 0])) := by first | exact KK.out.fail hg hk7 hf | exact KK.out.drew.fail hg hk7 hf
       have hB8 : Bx v7 B [vi ki k, .string t, .slice sq sn sc, vi ki a] := by first | exact hk7.bx KK.out.2.2.1 (by omega) | exact hk7.bx KK.out.drew.2.2.1 (by omega)
       have HB8 : Hid (Bx v7 B _) := hB8
       simp only [World.setCells, Nat.zero_add, Nat.reduceAdd] at KP
       clear hK K hk7 hf KK hB8
       refine tks 6 ⟨some 21, _, _, _, _, none⟩ rfl ?_
       simp only [za, zb, zc, zd]
       refine tks 7 ⟨some 28, _, _, _, _, none⟩ rfl ?_
       simp only [za, zb, zc, zd]
       refine tks 8 ⟨some 29, _, _, _, _, none⟩ rfl ?_
       simp only [za, zb, zc, zd]
       refine rd 9 ⟨none, _, _, _, _, none⟩ rfl (fun K hK => ?_)
       obtain ⟨l0, l1', l2', l3', z0, z1, z2, z3⟩ := HB8.out.cf4
       have hB9 := HB8.out.1
       go_simp
       refine hK.out _ _ trivial (fun hHeld => ?_)
       refine gen_anyH (CF g w B d ea er) (by first | exact KP.out | exact KP.out.drew) ?_
       clear hHeld hK K KP l0 l1' l2' l3' z0 z1 z2 z3 HB8 hB9
       intro v8 KK'
       have KK : Hid (CF g w B d ea er v8) := KK'
       clear KK'
       have hHeld : True := trivial
       refine tks 10 ⟨some 9, _, _, _, _, none⟩ rfl ?_
       simp only [za, zb, zc, zd]
       refine wpAnyH_done (by kernel_rfl) ?_ _
       go_wp2_with fail
       exact ⟨.inr ⟨rfl, ea, er, KK, HR1⟩, by rw [msr_false, msr_true]; omega⟩
    ·rw [Bool.not_eq_true] at hi
     rw [hi]
     have eL : par (f1 + 1) (.lp lev n) d (q :: l) = .ok n (q :: l) := by rw [par_succ]; unfold pst; dsimp only; rw [← hZ.out, hi]; rfl
     have hR1 := HR0.out
     rw [eL] at hR1
     have HR1 : Hid (R = .ok n (q :: l)) := hR1.symm
     have K9 : Hid (Kp g w W2) := KB2.out.1
     have H9 : Hid (Bx W2 w.heap.size _) := KB2.out.2.1
     have H8 : Hid (Bx W2 B _) := KB2.out.2.2.1
     clear eL hR1 HR0
     obtain ⟨x0, x1, x2, x3⟩ := H8.out.d4
     obtain ⟨y0', y1', y2', y3', HFK, HFO, HFS, r0, r1, r2, r3, s0, s1, s2, s3, hrw'⟩ := fin9 (vi ki k) (.string t) (.slice sq sn sc) (vi ki a) K9.out (by omega) (H9.out)
     go_wp2
     refine bodyPost_ret (v := .tuple #[.agg #[vi ki k, .string t, .slice sq sn sc, vi ki a], .bool true]) (by simp [results, Tryd.results50, go_sem, y0', y1', y2', y3']) rfl ⟨HFK.out, by rw [HR1.out]; exact ⟨KB2.out.2.2.2.1.off HFO.out HFS.out (by omega) (by omega), KB2.out.2.2.2.2.2.2, _, _, _, _, _, _, rfl, KB2.out.2.2.2.2.1.off HFO.out HFS.out (fun c hc => ⟨by omega, by omega⟩)⟩⟩
   ·have K9 : Hid (Kp g w wr) := KK.out.1
    have H9 : Hid (Bx wr w.heap.size _) := KK.out.2.1
    have H8 : Hid (Bx wr B _) := KK.out.2.2.1
    have HF : Hid (PF g wr d ea er) := KK.out.2.2.2
    clear KK
    obtain ⟨x0, x1, x2, x3⟩ := H8.out.d4
    obtain ⟨y0', y1', y2', y3', HFK, HFO, HFS, r0, r1, r2, r3, s0, s1, s2, s3, hrw'⟩ := fin9 (vi ki 0) (.string ⟨#[]⟩) (.slice none 0 0) (vi ki 0) K9.out (by omega) (H9.out)
    go_wp2
    refine bodyPost_ret (v := .tuple #[.agg #[vi ki 0, .string ⟨#[]⟩, .slice none 0 0, vi ki 0], .bool false]) (by simp [results, Tryd.results50, go_sem, y0', y1', y2', y3']) rfl ⟨HFK.out, by rw [HR0.out]; exact ⟨PF.off HF.out HFO.out HFS.out (by omega), rfl⟩⟩
end Go.Proofs.YtaoocecipacnhaaDoor
