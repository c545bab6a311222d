import Derived.Test.YtaoocecipacnhaaDoorX5
open Go.Value renaming int → vi, string → vS, slice → vL
open Go.IntKind renaming i64 → ki
open List renaming setIfInBounds_toArray → zb, set_cons_zero → zc, set_cons_succ → zd, length_cons → zl
open Go.Act renaming put → za
open Go.Ending renaming returned → zr
set_option maxRecDepth 100000
set_option maxHeartbeats 16000000
set_option linter.all false
namespace Go.Proofs.YtaoocecipacnhaaDoor
open Go.RowKit
def nmR (r : Tg → Nat → List Tk → PR) (d : Nat) (p : Tk) : List Tk → PR
 | [] => .no 0 0
 | q :: l1 =>
  if q.1 = 3 ∧ typB p.2.1 = true then .ok (.mk 5 p.2.1 [.mk 3 q.2.1 [] q.2.2] p.2.2) l1
  else if isT q [(5, b1 40)] then
   if d = 20 then .no p.2.2 31
   else match l1 with
    | [] => .no 0 0
    | u :: l2 =>
     if isT u [(5, b1 41)] then .ok (.mk 9 p.2.1 [] p.2.2) l2
     else match r (.ks []) (d + 1) (u :: l2) with
      | .no a e => .no a e
      | .ok n l3 => .ok (.mk 9 p.2.1 n.ks p.2.2) l3
  else .no q.2.2 30
theorem named_any (g b cap : Nat) (T : List Tk) (N : Nat) (hNN : N ≤ 100000) (HM : Hid (LvOk g b cap T 27 0 N)) (p : Tk) (l : List Tk) (d f : Nat) (hL : EndL l) (hd : d ≤ 20) (hN : l.length ≤ N) (hf : 10 * l.length + 1 ≤ f) (w : World) (h : PS g b cap T w (p :: l) d) :
  Calls Tryd.prog 99 #[.pointer (some ⟨g, 0, none⟩)] w fun e w' => Kp g w w' ∧ Out g b cap T (fun c => w.heap.size ≤ c) w' d e (nmR (par f) d p l) := by
 obtain ⟨q, l1, rfl⟩ := hL.cons
 simp only [zl] at hN hf
 unfold nmR; dsimp only
 by_cases c1 : q.1 = 3 ∧ typB p.2.1 = true
 ·rw [if_pos c1]
  have hE := hL.tail (by omega : q.1 ≠ 0)
  obtain ⟨y, l2, rfl⟩ := hE.cons
  exact named_lit g b cap T p q d y l2 hE c1 w h
 rw [if_neg c1]
 have two : q.1 ≠ 3 ∨ (q.1 = 3 ∧ typB p.2.1 = false) := by
  by_cases h3 : q.1 = 3
  ·exact .inr ⟨h3, by cases hh : typB p.2.1 with | false => rfl | true => exact absurd ⟨h3, hh⟩ c1⟩
  ·exact .inl h3
 by_cases c2 : isT q [(5, b1 40)] = true
 ·rw [if_pos c2]
  have hE := hL.tail (isT_kind c2 (by simp))
  obtain ⟨u, l2, rfl⟩ := hE.cons
  by_cases h20 : d = 20
  ·subst h20
   rw [if_pos rfl]
   rcases two with h3 | ⟨h3, h4⟩
   ·exact named_full_a g b cap T p q u l2 c2 h3 w h
   ·exact named_full_b g b cap T p q u l2 c2 h3 h4 w h
  ·rw [if_neg h20]
   dsimp only
   simp only [zl] at hN hf
   have HC : ∀ V : World, PS g b cap T V (u :: l2) (d + 1) → Calls Tryd.prog 101 #[.pointer (some ⟨g, 0, none⟩)] V fun e w' => Kp g V w' ∧ Out g b cap T (fun c => V.heap.size ≤ c) w' (d + 1) e (if isT u [(5, b1 41)] then .ok (.mk 9 ⟨#[]⟩ [] 0) l2 else par f (.ks []) (d + 1) (u :: l2)) := fun V hV => kids_any g b cap T N hNN HM u l2 (d + 1) f hE (by omega) (by simp only [zl]; omega) (by simp only [need, zl]; omega) V hV
   by_cases c3 : isT u [(5, b1 41)] = true
   ·rw [if_pos c3]
    rw [if_pos c3] at HC
    rcases two with h3 | ⟨h3, h4⟩
    ·exact named_ok_a g b cap T p q d u l2 (by omega) (.mk 9 ⟨#[]⟩ [] 0) l2 rfl c2 HC h3 w h
    ·exact named_ok_b g b cap T p q d u l2 (by omega) (.mk 9 ⟨#[]⟩ [] 0) l2 rfl c2 HC h3 h4 w h
   ·rw [if_neg c3]
    rw [if_neg c3] at HC
    cases hr : par f (.ks []) (d + 1) (u :: l2) with
    | no ea er =>
     rw [hr] at HC
     rcases two with h3 | ⟨h3, h4⟩
     ·exact named_no_a g b cap T p q d u l2 (by omega) ea er c2 HC h3 w h
     ·exact named_no_b g b cap T p q d u l2 (by omega) ea er c2 HC h3 h4 w h
    | ok m l3 =>
     rw [hr] at HC
     have hk9 := ks_kind _ _ _ _ _ _ hr
     rcases two with h3 | ⟨h3, h4⟩
     ·exact named_ok_a g b cap T p q d u l2 (by omega) m l3 hk9 c2 HC h3 w h
     ·exact named_ok_b g b cap T p q d u l2 (by omega) m l3 hk9 c2 HC h3 h4 w h
 ·rw [if_neg c2]
  have c2' : isT q [(5, b1 40)] = false := by simpa using c2
  rcases two with h3 | ⟨h3, h4⟩
  ·exact named_np_a g b cap T p q l1 d c2' h3 w h
  ·exact named_np_b g b cap T p q l1 d c2' h3 h4 w h
theorem prim_1 (g b cap : Nat) (T : List Tk) (p : Tk) (d : Nat) (y : Tk) (l2 : List Tk) (hE : EndL (y :: l2)) (h1 : Hid (p.1 = 1)) (w : World) (h : PS g b cap T w (p :: y :: l2) d) :
  Calls Tryd.prog 95 #[.pointer (some ⟨g, 0, none⟩)] w fun e w' => Kp g w w' ∧ Out g b cap T (fun c => w.heap.size ≤ c) w' d e (.ok (.mk 1 p.2.1 [] p.2.2) (y :: l2)) := by
 have HP0 : Hid _ := h
 have hg := h.lt
 have hbl := h.tr.1
 obtain ⟨⟨pre, pa, pe, he, hbx⟩, htr, hne, hle, hmost⟩ := h
 have cg := hbx.c 0 rfl
 obtain ⟨t0, t1, t2⟩ := htr.at he
 have hlen : T.length = pre.length + (y :: l2).length + 1 := by rw [he]; simp; omega
 unfold maxLen at hmost
 have HEQ : Hid _ := he
 clear hbx htr he
 have k1 : (p.1 == 1) = true := by simpa using h1.out
 go_enter Tryd.func95, Tryd.ntmps95
 go_upto_region 2 with fail
 have B0 := bsm2 w [vi ki 0, vS ⟨#[]⟩, vL none 0 0, vi ki 0] 24 [vi ki p.1, vS p.2.1, vi ki p.2.2] 81
 refine gen_to (BS w _) B0.out ?_
 intro W1 hB
 have hz1 : w.heap.size + 2 ≤ W1.heap.size := by have := (hB.at (w.heap.size + 1) [vi ki p.1, vS p.2.1, vi ki p.2.2] (by simp)).1; (try simp at this); omega
 have K1 := kpo g hB
 have H1_0 := bxi hB 1
 have H1_1 := bxi hB 0
 have Q1 : Hid _ := HP0.out.below hB.1
 clear B0 HP0 hB
 clear cg t0 t1 t2 HEQ hlen hmost hle hne
 have hl1_0 := H1_0.out.1
 obtain ⟨c1_0_0, c1_0_1, c1_0_2, c1_0_3⟩ := H1_0.out.d4
 have hl1_1 := H1_1.out.1
 have c1_1_0 := H1_1.out.c 0 rfl
 have c1_1_1 := H1_1.out.c 1 rfl
 have c1_1_2 := H1_1.out.c 2 rfl
 go_wp2_with fail
 refine (leaf_any g b cap T p y l2 d 1 _ Q1.out).mono ?_
 rintro e W2 ⟨rfl, hk, hp⟩
 have hz2 : W1.heap.size + 0 ≤ W2.heap.size := hzk hk
 have K2 := kph K1 hk
 have H2_0 := bxh hk H1_0
 have H2_1 := bxh hk H1_1
 clear hl1_0 c1_0_0 c1_0_1 c1_0_2 c1_0_3 hl1_1 c1_1_0 c1_1_1 c1_1_2 H1_0 H1_1 K1
 have Q2' : Hid _ := hp
 clear hp hk
 have hl2_0 := H2_0.out.1
 obtain ⟨y0', y1', y2', y3', HFK, HFO, HFS, r0, r1, r2, r3, s0, s1, s2, s3, hrw'⟩ := fin9 (vi ki 1) (vS p.2.1) (vL none 0 0) (vi ki p.2.2) K2.out (by omega) (H2_0.out)
 go_wp2
 refine bodyPost_ret (v := .tuple #[.agg #[vi ki 1, vS p.2.1, vL none 0 0, vi ki p.2.2], .bool true]) (by simp [results, Tryd.results95, go_sem, y0', y1', y2', y3']) rfl ⟨HFK.out, Q2'.out.off HFO.out HFS.out (by omega) (by omega), hE, _, _, _, _, _, _, rfl, NdAt.leaf _ _ _ _ _⟩
theorem prim_2 (g b cap : Nat) (T : List Tk) (p : Tk) (d : Nat) (y : Tk) (l2 : List Tk) (hE : EndL (y :: l2)) (h2 : Hid (p.1 = 2)) (w : World) (h : PS g b cap T w (p :: y :: l2) d) :
  Calls Tryd.prog 95 #[.pointer (some ⟨g, 0, none⟩)] w fun e w' => Kp g w w' ∧ Out g b cap T (fun c => w.heap.size ≤ c) w' d e (.ok (.mk 2 p.2.1 [] p.2.2) (y :: l2)) := by
 have HP0 : Hid _ := h
 have hg := h.lt
 have hbl := h.tr.1
 obtain ⟨⟨pre, pa, pe, he, hbx⟩, htr, hne, hle, hmost⟩ := h
 have cg := hbx.c 0 rfl
 obtain ⟨t0, t1, t2⟩ := htr.at he
 have hlen : T.length = pre.length + (y :: l2).length + 1 := by rw [he]; simp; omega
 unfold maxLen at hmost
 have HEQ : Hid _ := he
 clear hbx htr he
 have k1 : (p.1 == 1) = false := by simp [h2.out]
 have k2 : (p.1 == 2) = true := by simpa using h2.out
 go_enter Tryd.func95, Tryd.ntmps95
 go_upto_region 2 with fail
 have B0 := bsm2 w [vi ki 0, vS ⟨#[]⟩, vL none 0 0, vi ki 0] 24 [vi ki p.1, vS p.2.1, vi ki p.2.2] 81
 refine gen_to (BS w _) B0.out ?_
 intro W1 hB
 have hz1 : w.heap.size + 2 ≤ W1.heap.size := by have := (hB.at (w.heap.size + 1) [vi ki p.1, vS p.2.1, vi ki p.2.2] (by simp)).1; (try simp at this); omega
 have K1 := kpo g hB
 have H1_0 := bxi hB 1
 have H1_1 := bxi hB 0
 have Q1 : Hid _ := HP0.out.below hB.1
 clear B0 HP0 hB
 clear cg t0 t1 t2 HEQ hlen hmost hle hne
 have hl1_0 := H1_0.out.1
 obtain ⟨c1_0_0, c1_0_1, c1_0_2, c1_0_3⟩ := H1_0.out.d4
 have hl1_1 := H1_1.out.1
 have c1_1_0 := H1_1.out.c 0 rfl
 have c1_1_1 := H1_1.out.c 1 rfl
 have c1_1_2 := H1_1.out.c 2 rfl
 go_wp2_with fail
 refine (leaf_any g b cap T p y l2 d 2 _ Q1.out).mono ?_
 rintro e W2 ⟨rfl, hk, hp⟩
 have hz2 : W1.heap.size + 0 ≤ W2.heap.size := hzk hk
 have K2 := kph K1 hk
 have H2_0 := bxh hk H1_0
 have H2_1 := bxh hk H1_1
 clear hl1_0 c1_0_0 c1_0_1 c1_0_2 c1_0_3 hl1_1 c1_1_0 c1_1_1 c1_1_2 H1_0 H1_1 K1
 have Q2' : Hid _ := hp
 clear hp hk
 have hl2_0 := H2_0.out.1
 obtain ⟨y0', y1', y2', y3', HFK, HFO, HFS, r0, r1, r2, r3, s0, s1, s2, s3, hrw'⟩ := fin9 (vi ki 2) (vS p.2.1) (vL none 0 0) (vi ki p.2.2) K2.out (by omega) (H2_0.out)
 go_wp2
 refine bodyPost_ret (v := .tuple #[.agg #[vi ki 2, vS p.2.1, vL none 0 0, vi ki p.2.2], .bool true]) (by simp [results, Tryd.results95, go_sem, y0', y1', y2', y3']) rfl ⟨HFK.out, Q2'.out.off HFO.out HFS.out (by omega) (by omega), hE, _, _, _, _, _, _, rfl, NdAt.leaf _ _ _ _ _⟩
theorem prim_3 (g b cap : Nat) (T : List Tk) (p : Tk) (d : Nat) (y : Tk) (l2 : List Tk) (hE : EndL (y :: l2)) (h3 : Hid (p.1 = 3)) (w : World) (h : PS g b cap T w (p :: y :: l2) d) :
  Calls Tryd.prog 95 #[.pointer (some ⟨g, 0, none⟩)] w fun e w' => Kp g w w' ∧ Out g b cap T (fun c => w.heap.size ≤ c) w' d e (.ok (.mk 3 p.2.1 [] p.2.2) (y :: l2)) := by
 have HP0 : Hid _ := h
 have hg := h.lt
 have hbl := h.tr.1
 obtain ⟨⟨pre, pa, pe, he, hbx⟩, htr, hne, hle, hmost⟩ := h
 have cg := hbx.c 0 rfl
 obtain ⟨t0, t1, t2⟩ := htr.at he
 have hlen : T.length = pre.length + (y :: l2).length + 1 := by rw [he]; simp; omega
 unfold maxLen at hmost
 have HEQ : Hid _ := he
 clear hbx htr he
 have k1 : (p.1 == 1) = false := by simp [h3.out]
 have k2 : (p.1 == 2) = false := by simp [h3.out]
 have k3 : (p.1 == 3) = true := by simpa using h3.out
 go_enter Tryd.func95, Tryd.ntmps95
 go_upto_region 2 with fail
 have B0 := bsm2 w [vi ki 0, vS ⟨#[]⟩, vL none 0 0, vi ki 0] 24 [vi ki p.1, vS p.2.1, vi ki p.2.2] 81
 refine gen_to (BS w _) B0.out ?_
 intro W1 hB
 have hz1 : w.heap.size + 2 ≤ W1.heap.size := by have := (hB.at (w.heap.size + 1) [vi ki p.1, vS p.2.1, vi ki p.2.2] (by simp)).1; (try simp at this); omega
 have K1 := kpo g hB
 have H1_0 := bxi hB 1
 have H1_1 := bxi hB 0
 have Q1 : Hid _ := HP0.out.below hB.1
 clear B0 HP0 hB
 clear cg t0 t1 t2 HEQ hlen hmost hle hne
 have hl1_0 := H1_0.out.1
 obtain ⟨c1_0_0, c1_0_1, c1_0_2, c1_0_3⟩ := H1_0.out.d4
 have hl1_1 := H1_1.out.1
 have c1_1_0 := H1_1.out.c 0 rfl
 have c1_1_1 := H1_1.out.c 1 rfl
 have c1_1_2 := H1_1.out.c 2 rfl
 go_wp2_with fail
 refine (leaf_any g b cap T p y l2 d 3 _ Q1.out).mono ?_
 rintro e W2 ⟨rfl, hk, hp⟩
 have hz2 : W1.heap.size + 0 ≤ W2.heap.size := hzk hk
 have K2 := kph K1 hk
 have H2_0 := bxh hk H1_0
 have H2_1 := bxh hk H1_1
 clear hl1_0 c1_0_0 c1_0_1 c1_0_2 c1_0_3 hl1_1 c1_1_0 c1_1_1 c1_1_2 H1_0 H1_1 K1
 have Q2' : Hid _ := hp
 clear hp hk
 have hl2_0 := H2_0.out.1
 obtain ⟨y0', y1', y2', y3', HFK, HFO, HFS, r0, r1, r2, r3, s0, s1, s2, s3, hrw'⟩ := fin9 (vi ki 3) (vS p.2.1) (vL none 0 0) (vi ki p.2.2) K2.out (by omega) (H2_0.out)
 go_wp2
 refine bodyPost_ret (v := .tuple #[.agg #[vi ki 3, vS p.2.1, vL none 0 0, vi ki p.2.2], .bool true]) (by simp [results, Tryd.results95, go_sem, y0', y1', y2', y3']) rfl ⟨HFK.out, Q2'.out.off HFO.out HFS.out (by omega) (by omega), hE, _, _, _, _, _, _, rfl, NdAt.leaf _ _ _ _ _⟩
theorem prim_4 (g b cap : Nat) (T : List Tk) (p : Tk) (d : Nat) (y : Tk) (l2 : List Tk) (hE : EndL (y :: l2)) (h1 : p.1 ≠ 1) (h2 : p.1 ≠ 2) (h3 : p.1 ≠ 3) (h4 : isT p [(4, trueB), (4, falseB)] = true) (w : World) (h : PS g b cap T w (p :: y :: l2) d) :
  Calls Tryd.prog 95 #[.pointer (some ⟨g, 0, none⟩)] w fun e w' => Kp g w w' ∧ Out g b cap T (fun c => w.heap.size ≤ c) w' d e (.ok (.mk 4 p.2.1 [] p.2.2) (y :: l2)) := by
 have HP0 : Hid _ := h
 have hg := h.lt
 have hbl := h.tr.1
 obtain ⟨⟨pre, pa, pe, he, hbx⟩, htr, hne, hle, hmost⟩ := h
 have cg := hbx.c 0 rfl
 obtain ⟨t0, t1, t2⟩ := htr.at he
 have hlen : T.length = pre.length + (y :: l2).length + 1 := by rw [he]; simp; omega
 unfold maxLen at hmost
 have HEQ : Hid _ := he
 clear hbx htr he
 have k1 : (p.1 == 1) = false := by simpa using h1
 have k2 : (p.1 == 2) = false := by simpa using h2
 have k3 : (p.1 == 3) = false := by simpa using h3
 go_enter Tryd.func95, Tryd.ntmps95
 go_upto_region 2 with fail
 have B0 := bsm2 w [vi ki 0, vS ⟨#[]⟩, vL none 0 0, vi ki 0] 24 [vi ki p.1, vS p.2.1, vi ki p.2.2] 81
 refine gen_to (BS w _) B0.out ?_
 intro W1 hB
 have hz1 : w.heap.size + 2 ≤ W1.heap.size := by have := (hB.at (w.heap.size + 1) [vi ki p.1, vS p.2.1, vi ki p.2.2] (by simp)).1; (try simp at this); omega
 have K1 := kpo g hB
 have H1_0 := bxi hB 1
 have H1_1 := bxi hB 0
 have Q1 : Hid _ := HP0.out.below hB.1
 clear B0 HP0 hB
 clear cg t0 t1 t2 HEQ hlen hmost hle hne
 have hl1_0 := H1_0.out.1
 obtain ⟨c1_0_0, c1_0_1, c1_0_2, c1_0_3⟩ := H1_0.out.d4
 have hl1_1 := H1_1.out.1
 have c1_1_0 := H1_1.out.c 0 rfl
 have c1_1_1 := H1_1.out.c 1 rfl
 have c1_1_2 := H1_1.out.c 2 rfl
 go_wp2_with fail
 have B1 := bsm1 W1 [vi ki 4, vS ⟨#[116, 114, 117, 101]⟩, vi ki 4, vS ⟨#[102, 97, 108, 115, 101]⟩] 79
 refine (is_any g b cap T p _ d [(4, trueB), (4, falseB)] (W1.heap.size) 2 _ (Q1.out.below B1.out.1) (by simp) (by omega) (by simp) (B1.out.at (W1.heap.size) [vi ki 4, vS ⟨#[116, 114, 117, 101]⟩, vi ki 4, vS ⟨#[102, 97, 108, 115, 101]⟩] (by simp))).mono ?_
 rintro e W2 ⟨rfl, hb⟩
 have hk : Kp g _ W2 := Kp.of hb
 have hz2 : W1.heap.size + 1 ≤ W2.heap.size := hzk hk
 have K2 : Hid (Kp g w W2) := (K1.out.trans (Kp.of B1.out.1)).trans hk
 have H2_0 := bxb hk H1_0 B1
 have H2_1 := bxb hk H1_1 B1
 have H2_2 := bxk hk B1 0
 have Q2 : Hid _ := (Q1.out.below B1.out.1).below hb
 clear hl1_0 c1_0_0 c1_0_1 c1_0_2 c1_0_3 hl1_1 c1_1_0 c1_1_1 c1_1_2 B1 H1_0 H1_1 K1 hb
 clear hk
 rw [h4]
 have hl2_0 := H2_0.out.1
 obtain ⟨c2_0_0, c2_0_1, c2_0_2, c2_0_3⟩ := H2_0.out.d4
 have hl2_1 := H2_1.out.1
 have c2_1_0 := H2_1.out.c 0 rfl
 have c2_1_1 := H2_1.out.c 1 rfl
 have c2_1_2 := H2_1.out.c 2 rfl
 go_wp2_with fail
 refine (leaf_any g b cap T p y l2 d 4 _ Q2.out).mono ?_
 rintro e W3 ⟨rfl, hk, hp⟩
 have hz3 : W2.heap.size + 0 ≤ W3.heap.size := hzk hk
 have K3 := kph K2 hk
 have H3_0 := bxh hk H2_0
 have H3_1 := bxh hk H2_1
 have H3_2 := bxh hk H2_2
 clear hl2_0 c2_0_0 c2_0_1 c2_0_2 c2_0_3 hl2_1 c2_1_0 c2_1_1 c2_1_2 H2_0 H2_1 H2_2 K2
 have Q3' : Hid _ := hp
 clear hp hk
 have hl3_0 := H3_0.out.1
 obtain ⟨y0', y1', y2', y3', HFK, HFO, HFS, r0, r1, r2, r3, s0, s1, s2, s3, hrw'⟩ := fin9 (vi ki 4) (vS p.2.1) (vL none 0 0) (vi ki p.2.2) K3.out (by omega) (H3_0.out)
 go_wp2
 refine bodyPost_ret (v := .tuple #[.agg #[vi ki 4, vS p.2.1, vL none 0 0, vi ki p.2.2], .bool true]) (by simp [results, Tryd.results95, go_sem, y0', y1', y2', y3']) rfl ⟨HFK.out, Q3'.out.off HFO.out HFS.out (by omega) (by omega), hE, _, _, _, _, _, _, rfl, NdAt.leaf _ _ _ _ _⟩
theorem prim_5full (g b cap : Nat) (T : List Tk) (p : Tk) (y : Tk) (l2 : List Tk) (h1 : p.1 ≠ 1) (h2 : p.1 ≠ 2) (h3 : p.1 ≠ 3) (h4 : isT p [(4, trueB), (4, falseB)] = false) (h5 : isT p [(5, b1 40)] = true) (w : World) (h : PS g b cap T w (p :: y :: l2) 20) :
  Calls Tryd.prog 95 #[.pointer (some ⟨g, 0, none⟩)] w fun e w' => Kp g w w' ∧ Out g b cap T (fun c => w.heap.size ≤ c) w' 20 e (.no p.2.2 31) := by
 have HP0 : Hid _ := h
 have hg := h.lt
 have hbl := h.tr.1
 obtain ⟨⟨pre, pa, pe, he, hbx⟩, htr, hne, hle, hmost⟩ := h
 have cg := hbx.c 0 rfl
 obtain ⟨t0, t1, t2⟩ := htr.at he
 have hlen : T.length = pre.length + (y :: l2).length + 1 := by rw [he]; simp; omega
 unfold maxLen at hmost
 have HEQ : Hid _ := he
 clear hbx htr he
 have k1 : (p.1 == 1) = false := by simpa using h1
 have k2 : (p.1 == 2) = false := by simpa using h2
 have k3 : (p.1 == 3) = false := by simpa using h3
 go_enter Tryd.func95, Tryd.ntmps95
 go_upto_region 2 with fail
 have B0 := bsm2 w [vi ki 0, vS ⟨#[]⟩, vL none 0 0, vi ki 0] 24 [vi ki p.1, vS p.2.1, vi ki p.2.2] 81
 refine gen_to (BS w _) B0.out ?_
 intro W1 hB
 have hz1 : w.heap.size + 2 ≤ W1.heap.size := by have := (hB.at (w.heap.size + 1) [vi ki p.1, vS p.2.1, vi ki p.2.2] (by simp)).1; (try simp at this); omega
 have K1 := kpo g hB
 have H1_0 := bxi hB 1
 have H1_1 := bxi hB 0
 have Q1 : Hid _ := HP0.out.below hB.1
 clear B0 HP0 hB
 clear cg t0 t1 t2 HEQ hlen hmost hle hne
 have hl1_0 := H1_0.out.1
 obtain ⟨c1_0_0, c1_0_1, c1_0_2, c1_0_3⟩ := H1_0.out.d4
 have hl1_1 := H1_1.out.1
 have c1_1_0 := H1_1.out.c 0 rfl
 have c1_1_1 := H1_1.out.c 1 rfl
 have c1_1_2 := H1_1.out.c 2 rfl
 go_wp2_with fail
 have B1 := bsm1 W1 [vi ki 4, vS ⟨#[116, 114, 117, 101]⟩, vi ki 4, vS ⟨#[102, 97, 108, 115, 101]⟩] 79
 refine (is_any g b cap T p _ 20 [(4, trueB), (4, falseB)] (W1.heap.size) 2 _ (Q1.out.below B1.out.1) (by simp) (by omega) (by simp) (B1.out.at (W1.heap.size) [vi ki 4, vS ⟨#[116, 114, 117, 101]⟩, vi ki 4, vS ⟨#[102, 97, 108, 115, 101]⟩] (by simp))).mono ?_
 rintro e W2 ⟨rfl, hb⟩
 have hk : Kp g _ W2 := Kp.of hb
 have hz2 : W1.heap.size + 1 ≤ W2.heap.size := hzk hk
 have K2 : Hid (Kp g w W2) := (K1.out.trans (Kp.of B1.out.1)).trans hk
 have H2_0 := bxb hk H1_0 B1
 have H2_1 := bxb hk H1_1 B1
 have H2_2 := bxk hk B1 0
 have Q2 : Hid _ := (Q1.out.below B1.out.1).below hb
 clear hl1_0 c1_0_0 c1_0_1 c1_0_2 c1_0_3 hl1_1 c1_1_0 c1_1_1 c1_1_2 B1 H1_0 H1_1 K1 hb
 clear hk
 rw [h4]
 have hl2_0 := H2_0.out.1
 obtain ⟨c2_0_0, c2_0_1, c2_0_2, c2_0_3⟩ := H2_0.out.d4
 have hl2_1 := H2_1.out.1
 have c2_1_0 := H2_1.out.c 0 rfl
 have c2_1_1 := H2_1.out.c 1 rfl
 have c2_1_2 := H2_1.out.c 2 rfl
 go_wp2_with fail
 have B2 := bsm1 W2 [vi ki 5, vS ⟨#[40]⟩] 79
 refine (is_any g b cap T p _ 20 [(5, b1 40)] (W2.heap.size) 1 _ (Q2.out.below B2.out.1) (by simp) (by omega) (by simp) (B2.out.at (W2.heap.size) [vi ki 5, vS ⟨#[40]⟩] (by simp))).mono ?_
 rintro e W3 ⟨rfl, hb⟩
 have hk : Kp g _ W3 := Kp.of hb
 have hz3 : W2.heap.size + 1 ≤ W3.heap.size := hzk hk
 have K3 : Hid (Kp g w W3) := (K2.out.trans (Kp.of B2.out.1)).trans hk
 have H3_0 := bxb hk H2_0 B2
 have H3_1 := bxb hk H2_1 B2
 have H3_2 := bxb hk H2_2 B2
 have H3_3 := bxk hk B2 0
 have Q3 : Hid _ := (Q2.out.below B2.out.1).below hb
 clear hl2_0 c2_0_0 c2_0_1 c2_0_2 c2_0_3 hl2_1 c2_1_0 c2_1_1 c2_1_2 B2 H2_0 H2_1 H2_2 K2 hb
 clear hk
 rw [h5]
 have hl3_0 := H3_0.out.1
 obtain ⟨c3_0_0, c3_0_1, c3_0_2, c3_0_3⟩ := H3_0.out.d4
 have hl3_1 := H3_1.out.1
 have c3_1_0 := H3_1.out.c 0 rfl
 have c3_1_1 := H3_1.out.c 1 rfl
 have c3_1_2 := H3_1.out.c 2 rfl
 go_wp2_with fail
 refine (next_any g b cap T p y l2 20 _ Q3.out).mono ?_
 rintro e W4 ⟨rfl, hk, hp⟩
 have hz4 : W3.heap.size + 0 ≤ W4.heap.size := hzk hk
 have K4 := kph K3 hk
 have H4_0 := bxh hk H3_0
 have H4_1 := bxh hk H3_1
 have H4_2 := bxh hk H3_2
 have H4_3 := bxh hk H3_3
 clear hl3_0 c3_0_0 c3_0_1 c3_0_2 c3_0_3 hl3_1 c3_1_0 c3_1_1 c3_1_2 H3_0 H3_1 H3_2 H3_3 K3
 have Q4' : Hid _ := hp
 clear hp hk
 have hl4_0 := H4_0.out.1
 obtain ⟨c4_0_0, c4_0_1, c4_0_2, c4_0_3⟩ := H4_0.out.d4
 go_wp2_with fail
 refine (deeper_full g b cap T _ (enters_of Tryd.func98 (by kernel_rfl) rfl) (y :: l2) p.1 p.2.1 p.2.2 _ Q4'.out).mono ?_
 rintro e W5 ⟨hk, ho⟩
 have hz5 : W4.heap.size + 0 ≤ W5.heap.size := hzk hk
 have K5 := kph K4 hk
 have H5_0 := bxh hk H4_0
 have H5_1 := bxh hk H4_1
 have H5_2 := bxh hk H4_2
 have H5_3 := bxh hk H4_3
 clear hl4_0 c4_0_0 c4_0_1 c4_0_2 c4_0_3 H4_0 H4_1 H4_2 H4_3 K4
 obtain ⟨hf, rfl⟩ := ho
 have HF := hZz hf
 clear hf hk
 have hl5_0 := H5_0.out.1
 obtain ⟨y0', y1', y2', y3', HFK, HFO, HFS, r0, r1, r2, r3, s0, s1, s2, s3, hrw'⟩ := fin9 (vi ki 0) (vS ⟨#[]⟩) (vL none 0 0) (vi ki 0) K5.out (by omega) (H5_0.out)
 go_wp2
 refine bodyPost_ret (v := .tuple #[.agg #[vi ki 0, vS ⟨#[]⟩, vL none 0 0, vi ki 0], .bool false]) (by simp [results, Tryd.results95, go_sem, y0', y1', y2', y3']) rfl ⟨HFK.out, PF.off HF.out HFO.out HFS.out (by omega), rfl⟩
theorem prim_5no (g b cap : Nat) (T : List Tk) (p : Tk) (d : Nat) (y : Tk) (l2 : List Tk) (h1 : p.1 ≠ 1) (h2 : p.1 ≠ 2) (h3 : p.1 ≠ 3) (h4 : isT p [(4, trueB), (4, falseB)] = false) (h5 : isT p [(5, b1 40)] = true) (hd : d < 20) (ea er : Int) (HM : Hid (∀ w : World, PS g b cap T w (y :: l2) (d + 1) → Calls Tryd.prog 98 #[.pointer (some ⟨g, 0, none⟩)] w fun e w' => Kp g w w' ∧ Out g b cap T (fun c => w.heap.size ≤ c) w' (d + 1) e (.no ea er))) (w : World) (h : PS g b cap T w (p :: y :: l2) d) :
  Calls Tryd.prog 95 #[.pointer (some ⟨g, 0, none⟩)] w fun e w' => Kp g w w' ∧ Out g b cap T (fun c => w.heap.size ≤ c) w' d e (.no ea er) := by
 have HP0 : Hid _ := h
 have hg := h.lt
 have hbl := h.tr.1
 obtain ⟨⟨pre, pa, pe, he, hbx⟩, htr, hne, hle, hmost⟩ := h
 have cg := hbx.c 0 rfl
 obtain ⟨t0, t1, t2⟩ := htr.at he
 have hlen : T.length = pre.length + (y :: l2).length + 1 := by rw [he]; simp; omega
 unfold maxLen at hmost
 have HEQ : Hid _ := he
 clear hbx htr he
 have k1 : (p.1 == 1) = false := by simpa using h1
 have k2 : (p.1 == 2) = false := by simpa using h2
 have k3 : (p.1 == 3) = false := by simpa using h3
 go_enter Tryd.func95, Tryd.ntmps95
 go_upto_region 2 with fail
 have B0 := bsm2 w [vi ki 0, vS ⟨#[]⟩, vL none 0 0, vi ki 0] 24 [vi ki p.1, vS p.2.1, vi ki p.2.2] 81
 refine gen_to (BS w _) B0.out ?_
 intro W1 hB
 have hz1 : w.heap.size + 2 ≤ W1.heap.size := by have := (hB.at (w.heap.size + 1) [vi ki p.1, vS p.2.1, vi ki p.2.2] (by simp)).1; (try simp at this); omega
 have K1 := kpo g hB
 have H1_0 := bxi hB 1
 have H1_1 := bxi hB 0
 have Q1 : Hid _ := HP0.out.below hB.1
 clear B0 HP0 hB
 clear cg t0 t1 t2 HEQ hlen hmost hle hne
 have hl1_0 := H1_0.out.1
 obtain ⟨c1_0_0, c1_0_1, c1_0_2, c1_0_3⟩ := H1_0.out.d4
 have hl1_1 := H1_1.out.1
 have c1_1_0 := H1_1.out.c 0 rfl
 have c1_1_1 := H1_1.out.c 1 rfl
 have c1_1_2 := H1_1.out.c 2 rfl
 go_wp2_with fail
 have B1 := bsm1 W1 [vi ki 4, vS ⟨#[116, 114, 117, 101]⟩, vi ki 4, vS ⟨#[102, 97, 108, 115, 101]⟩] 79
 refine (is_any g b cap T p _ d [(4, trueB), (4, falseB)] (W1.heap.size) 2 _ (Q1.out.below B1.out.1) (by simp) (by omega) (by simp) (B1.out.at (W1.heap.size) [vi ki 4, vS ⟨#[116, 114, 117, 101]⟩, vi ki 4, vS ⟨#[102, 97, 108, 115, 101]⟩] (by simp))).mono ?_
 rintro e W2 ⟨rfl, hb⟩
 have hk : Kp g _ W2 := Kp.of hb
 have hz2 : W1.heap.size + 1 ≤ W2.heap.size := hzk hk
 have K2 : Hid (Kp g w W2) := (K1.out.trans (Kp.of B1.out.1)).trans hk
 have H2_0 := bxb hk H1_0 B1
 have H2_1 := bxb hk H1_1 B1
 have H2_2 := bxk hk B1 0
 have Q2 : Hid _ := (Q1.out.below B1.out.1).below hb
 clear hl1_0 c1_0_0 c1_0_1 c1_0_2 c1_0_3 hl1_1 c1_1_0 c1_1_1 c1_1_2 B1 H1_0 H1_1 K1 hb
 clear hk
 rw [h4]
 have hl2_0 := H2_0.out.1
 obtain ⟨c2_0_0, c2_0_1, c2_0_2, c2_0_3⟩ := H2_0.out.d4
 have hl2_1 := H2_1.out.1
 have c2_1_0 := H2_1.out.c 0 rfl
 have c2_1_1 := H2_1.out.c 1 rfl
 have c2_1_2 := H2_1.out.c 2 rfl
 go_wp2_with fail
 have B2 := bsm1 W2 [vi ki 5, vS ⟨#[40]⟩] 79
 refine (is_any g b cap T p _ d [(5, b1 40)] (W2.heap.size) 1 _ (Q2.out.below B2.out.1) (by simp) (by omega) (by simp) (B2.out.at (W2.heap.size) [vi ki 5, vS ⟨#[40]⟩] (by simp))).mono ?_
 rintro e W3 ⟨rfl, hb⟩
 have hk : Kp g _ W3 := Kp.of hb
 have hz3 : W2.heap.size + 1 ≤ W3.heap.size := hzk hk
 have K3 : Hid (Kp g w W3) := (K2.out.trans (Kp.of B2.out.1)).trans hk
 have H3_0 := bxb hk H2_0 B2
 have H3_1 := bxb hk H2_1 B2
 have H3_2 := bxb hk H2_2 B2
 have H3_3 := bxk hk B2 0
 have Q3 : Hid _ := (Q2.out.below B2.out.1).below hb
 clear hl2_0 c2_0_0 c2_0_1 c2_0_2 c2_0_3 hl2_1 c2_1_0 c2_1_1 c2_1_2 B2 H2_0 H2_1 H2_2 K2 hb
 clear hk
 rw [h5]
 have hl3_0 := H3_0.out.1
 obtain ⟨c3_0_0, c3_0_1, c3_0_2, c3_0_3⟩ := H3_0.out.d4
 have hl3_1 := H3_1.out.1
 have c3_1_0 := H3_1.out.c 0 rfl
 have c3_1_1 := H3_1.out.c 1 rfl
 have c3_1_2 := H3_1.out.c 2 rfl
 go_wp2_with fail
 refine (next_any g b cap T p y l2 d _ Q3.out).mono ?_
 rintro e W4 ⟨rfl, hk, hp⟩
 have hz4 : W3.heap.size + 0 ≤ W4.heap.size := hzk hk
 have K4 := kph K3 hk
 have H4_0 := bxh hk H3_0
 have H4_1 := bxh hk H3_1
 have H4_2 := bxh hk H3_2
 have H4_3 := bxh hk H3_3
 clear hl3_0 c3_0_0 c3_0_1 c3_0_2 c3_0_3 hl3_1 c3_1_0 c3_1_1 c3_1_2 H3_0 H3_1 H3_2 H3_3 K3
 have Q4' : Hid _ := hp
 clear hp hk
 have hl4_0 := H4_0.out.1
 obtain ⟨c4_0_0, c4_0_1, c4_0_2, c4_0_3⟩ := H4_0.out.d4
 go_wp2_with fail
 refine (deeper_no g b cap T _ (enters_of Tryd.func98 (by kernel_rfl) rfl) (y :: l2) p.1 p.2.1 p.2.2 d hd ea er HM _ Q4'.out).mono ?_
 rintro e W5 ⟨hk, ho⟩
 have hz5 : W4.heap.size + 0 ≤ W5.heap.size := hzk hk
 have K5 := kph K4 hk
 have H5_0 := bxh hk H4_0
 have H5_1 := bxh hk H4_1
 have H5_2 := bxh hk H4_2
 have H5_3 := bxh hk H4_3
 clear hl4_0 c4_0_0 c4_0_1 c4_0_2 c4_0_3 H4_0 H4_1 H4_2 H4_3 K4
 obtain ⟨hf, rfl⟩ := ho
 have HF := hZz hf
 clear hf hk
 have hl5_0 := H5_0.out.1
 obtain ⟨y0', y1', y2', y3', HFK, HFO, HFS, r0, r1, r2, r3, s0, s1, s2, s3, hrw'⟩ := fin9 (vi ki 0) (vS ⟨#[]⟩) (vL none 0 0) (vi ki 0) K5.out (by omega) (H5_0.out)
 go_wp2
 refine bodyPost_ret (v := .tuple #[.agg #[vi ki 0, vS ⟨#[]⟩, vL none 0 0, vi ki 0], .bool false]) (by simp [results, Tryd.results95, go_sem, y0', y1', y2', y3']) rfl ⟨HFK.out, PF.off HF.out HFO.out HFS.out (by omega), rfl⟩
theorem prim_5ok (g b cap : Nat) (T : List Tk) (p : Tk) (d : Nat) (y : Tk) (l2 : List Tk) (h1 : p.1 ≠ 1) (h2 : p.1 ≠ 2) (h3 : p.1 ≠ 3) (h4 : isT p [(4, trueB), (4, falseB)] = false) (h5 : isT p [(5, b1 40)] = true) (hd : d < 20) (n : Nd) (l1 : List Tk) (HM : Hid (∀ w : World, PS g b cap T w (y :: l2) (d + 1) → Calls Tryd.prog 98 #[.pointer (some ⟨g, 0, none⟩)] w fun e w' => Kp g w w' ∧ Out g b cap T (fun c => w.heap.size ≤ c) w' (d + 1) e (.ok n l1))) (w : World) (h : PS g b cap T w (p :: y :: l2) d) :
  Calls Tryd.prog 95 #[.pointer (some ⟨g, 0, none⟩)] w fun e w' => Kp g w w' ∧ Out g b cap T (fun c => w.heap.size ≤ c) w' d e (.ok n l1) := by
 have HP0 : Hid _ := h
 have hg := h.lt
 have hbl := h.tr.1
 obtain ⟨⟨pre, pa, pe, he, hbx⟩, htr, hne, hle, hmost⟩ := h
 have cg := hbx.c 0 rfl
 obtain ⟨t0, t1, t2⟩ := htr.at he
 have hlen : T.length = pre.length + (y :: l2).length + 1 := by rw [he]; simp; omega
 unfold maxLen at hmost
 have HEQ : Hid _ := he
 clear hbx htr he
 have k1 : (p.1 == 1) = false := by simpa using h1
 have k2 : (p.1 == 2) = false := by simpa using h2
 have k3 : (p.1 == 3) = false := by simpa using h3
 go_enter Tryd.func95, Tryd.ntmps95
 go_upto_region 2 with fail
 have B0 := bsm2 w [vi ki 0, vS ⟨#[]⟩, vL none 0 0, vi ki 0] 24 [vi ki p.1, vS p.2.1, vi ki p.2.2] 81
 refine gen_to (BS w _) B0.out ?_
 intro W1 hB
 have hz1 : w.heap.size + 2 ≤ W1.heap.size := by have := (hB.at (w.heap.size + 1) [vi ki p.1, vS p.2.1, vi ki p.2.2] (by simp)).1; (try simp at this); omega
 have K1 := kpo g hB
 have H1_0 := bxi hB 1
 have H1_1 := bxi hB 0
 have Q1 : Hid _ := HP0.out.below hB.1
 clear B0 HP0 hB
 clear cg t0 t1 t2 HEQ hlen hmost hle hne
 have hl1_0 := H1_0.out.1
 obtain ⟨c1_0_0, c1_0_1, c1_0_2, c1_0_3⟩ := H1_0.out.d4
 have hl1_1 := H1_1.out.1
 have c1_1_0 := H1_1.out.c 0 rfl
 have c1_1_1 := H1_1.out.c 1 rfl
 have c1_1_2 := H1_1.out.c 2 rfl
 go_wp2_with fail
 have B1 := bsm1 W1 [vi ki 4, vS ⟨#[116, 114, 117, 101]⟩, vi ki 4, vS ⟨#[102, 97, 108, 115, 101]⟩] 79
 refine (is_any g b cap T p _ d [(4, trueB), (4, falseB)] (W1.heap.size) 2 _ (Q1.out.below B1.out.1) (by simp) (by omega) (by simp) (B1.out.at (W1.heap.size) [vi ki 4, vS ⟨#[116, 114, 117, 101]⟩, vi ki 4, vS ⟨#[102, 97, 108, 115, 101]⟩] (by simp))).mono ?_
 rintro e W2 ⟨rfl, hb⟩
 have hk : Kp g _ W2 := Kp.of hb
 have hz2 : W1.heap.size + 1 ≤ W2.heap.size := hzk hk
 have K2 : Hid (Kp g w W2) := (K1.out.trans (Kp.of B1.out.1)).trans hk
 have H2_0 := bxb hk H1_0 B1
 have H2_1 := bxb hk H1_1 B1
 have H2_2 := bxk hk B1 0
 have Q2 : Hid _ := (Q1.out.below B1.out.1).below hb
 clear hl1_0 c1_0_0 c1_0_1 c1_0_2 c1_0_3 hl1_1 c1_1_0 c1_1_1 c1_1_2 B1 H1_0 H1_1 K1 hb
 clear hk
 rw [h4]
 have hl2_0 := H2_0.out.1
 obtain ⟨c2_0_0, c2_0_1, c2_0_2, c2_0_3⟩ := H2_0.out.d4
 have hl2_1 := H2_1.out.1
 have c2_1_0 := H2_1.out.c 0 rfl
 have c2_1_1 := H2_1.out.c 1 rfl
 have c2_1_2 := H2_1.out.c 2 rfl
 go_wp2_with fail
 have B2 := bsm1 W2 [vi ki 5, vS ⟨#[40]⟩] 79
 refine (is_any g b cap T p _ d [(5, b1 40)] (W2.heap.size) 1 _ (Q2.out.below B2.out.1) (by simp) (by omega) (by simp) (B2.out.at (W2.heap.size) [vi ki 5, vS ⟨#[40]⟩] (by simp))).mono ?_
 rintro e W3 ⟨rfl, hb⟩
 have hk : Kp g _ W3 := Kp.of hb
 have hz3 : W2.heap.size + 1 ≤ W3.heap.size := hzk hk
 have K3 : Hid (Kp g w W3) := (K2.out.trans (Kp.of B2.out.1)).trans hk
 have H3_0 := bxb hk H2_0 B2
 have H3_1 := bxb hk H2_1 B2
 have H3_2 := bxb hk H2_2 B2
 have H3_3 := bxk hk B2 0
 have Q3 : Hid _ := (Q2.out.below B2.out.1).below hb
 clear hl2_0 c2_0_0 c2_0_1 c2_0_2 c2_0_3 hl2_1 c2_1_0 c2_1_1 c2_1_2 B2 H2_0 H2_1 H2_2 K2 hb
 clear hk
 rw [h5]
 have hl3_0 := H3_0.out.1
 obtain ⟨c3_0_0, c3_0_1, c3_0_2, c3_0_3⟩ := H3_0.out.d4
 have hl3_1 := H3_1.out.1
 have c3_1_0 := H3_1.out.c 0 rfl
 have c3_1_1 := H3_1.out.c 1 rfl
 have c3_1_2 := H3_1.out.c 2 rfl
 go_wp2_with fail
 refine (next_any g b cap T p y l2 d _ Q3.out).mono ?_
 rintro e W4 ⟨rfl, hk, hp⟩
 have hz4 : W3.heap.size + 0 ≤ W4.heap.size := hzk hk
 have K4 := kph K3 hk
 have H4_0 := bxh hk H3_0
 have H4_1 := bxh hk H3_1
 have H4_2 := bxh hk H3_2
 have H4_3 := bxh hk H3_3
 clear hl3_0 c3_0_0 c3_0_1 c3_0_2 c3_0_3 hl3_1 c3_1_0 c3_1_1 c3_1_2 H3_0 H3_1 H3_2 H3_3 K3
 have Q4' : Hid _ := hp
 clear hp hk
 have hl4_0 := H4_0.out.1
 obtain ⟨c4_0_0, c4_0_1, c4_0_2, c4_0_3⟩ := H4_0.out.d4
 go_wp2_with fail
 refine (deeper_ok g b cap T _ (enters_of Tryd.func98 (by kernel_rfl) rfl) (y :: l2) p.1 p.2.1 p.2.2 d hd n l1 HM _ Q4'.out).mono ?_
 rintro e W5 ⟨hk, ho⟩
 have hz5 : W4.heap.size + 0 ≤ W5.heap.size := hzk hk
 have K5 := kph K4 hk
 have H5_0 := bxh hk H4_0
 have H5_1 := bxh hk H4_1
 have H5_2 := bxh hk H4_2
 have H5_3 := bxh hk H4_3
 clear hl4_0 c4_0_0 c4_0_1 c4_0_2 c4_0_3 H4_0 H4_1 H4_2 H4_3 K4
 obtain ⟨hps, hend, k2, u2, sq2, sn2, sc2, a2, rfl, hnd⟩ := ho
 have HQ : Hid _ := hps
 have HE1 : Hid _ := hend
 have HM2 : Hid _ := hnd
 clear hps hend hnd hk
 have hl5_0 := H5_0.out.1
 obtain ⟨y0', y1', y2', y3', HFK, HFO, HFS, r0, r1, r2, r3, s0, s1, s2, s3, hrw'⟩ := fin9 (vi ki k2) (vS u2) (vL sq2 sn2 sc2) (vi ki a2) K5.out (by omega) (H5_0.out)
 go_wp2
 refine bodyPost_ret (v := .tuple #[.agg #[vi ki k2, vS u2, vL sq2 sn2 sc2, vi ki a2], .bool true]) (by simp [results, Tryd.results95, go_sem, y0', y1', y2', y3']) rfl ⟨HFK.out, HQ.out.off HFO.out HFS.out (by omega) (by omega), HE1.out, _, _, _, _, _, _, rfl, HM2.out.off HFO.out HFS.out (fun c hc => ⟨by (try simp at hc ⊢); omega, by (try simp at hc); omega⟩)⟩
theorem prim_6no (g b cap : Nat) (T : List Tk) (p : Tk) (l : List Tk) (d : Nat) (h1 : p.1 ≠ 1) (h2 : p.1 ≠ 2) (h3 : p.1 ≠ 3) (h4 : isT p [(4, trueB), (4, falseB)] = false) (h5 : isT p [(5, b1 40)] = false) (h6 : free p = true) (ea er : Int) (HM : Hid (∀ w : World, PS g b cap T w (p :: l) (d) → Calls Tryd.prog 99 #[.pointer (some ⟨g, 0, none⟩)] w fun e w' => Kp g w w' ∧ Out g b cap T (fun c => w.heap.size ≤ c) w' (d) e (.no ea er))) (w : World) (h : PS g b cap T w (p :: l) d) :
  Calls Tryd.prog 95 #[.pointer (some ⟨g, 0, none⟩)] w fun e w' => Kp g w w' ∧ Out g b cap T (fun c => w.heap.size ≤ c) w' d e (.no ea er) := by
 have HP0 : Hid _ := h
 have hg := h.lt
 have hbl := h.tr.1
 obtain ⟨⟨pre, pa, pe, he, hbx⟩, htr, hne, hle, hmost⟩ := h
 have cg := hbx.c 0 rfl
 obtain ⟨t0, t1, t2⟩ := htr.at he
 have hlen : T.length = pre.length + l.length + 1 := by rw [he]; simp <;> omega
 unfold maxLen at hmost
 have HEQ : Hid _ := he
 clear hbx htr he
 have k1 : (p.1 == 1) = false := by simpa using h1
 have k2 : (p.1 == 2) = false := by simpa using h2
 have k3 : (p.1 == 3) = false := by simpa using h3
 go_enter Tryd.func95, Tryd.ntmps95
 go_upto_region 2 with fail
 have B0 := bsm2 w [vi ki 0, vS ⟨#[]⟩, vL none 0 0, vi ki 0] 24 [vi ki p.1, vS p.2.1, vi ki p.2.2] 81
 refine gen_to (BS w _) B0.out ?_
 intro W1 hB
 have hz1 : w.heap.size + 2 ≤ W1.heap.size := by have := (hB.at (w.heap.size + 1) [vi ki p.1, vS p.2.1, vi ki p.2.2] (by simp)).1; (try simp at this); omega
 have K1 := kpo g hB
 have H1_0 := bxi hB 1
 have H1_1 := bxi hB 0
 have Q1 : Hid _ := HP0.out.below hB.1
 clear B0 HP0 hB
 clear cg t0 t1 t2 HEQ hlen hmost hle hne
 have hl1_0 := H1_0.out.1
 obtain ⟨c1_0_0, c1_0_1, c1_0_2, c1_0_3⟩ := H1_0.out.d4
 have hl1_1 := H1_1.out.1
 have c1_1_0 := H1_1.out.c 0 rfl
 have c1_1_1 := H1_1.out.c 1 rfl
 have c1_1_2 := H1_1.out.c 2 rfl
 go_wp2_with fail
 have B1 := bsm1 W1 [vi ki 4, vS ⟨#[116, 114, 117, 101]⟩, vi ki 4, vS ⟨#[102, 97, 108, 115, 101]⟩] 79
 refine (is_any g b cap T p _ d [(4, trueB), (4, falseB)] (W1.heap.size) 2 _ (Q1.out.below B1.out.1) (by simp) (by omega) (by simp) (B1.out.at (W1.heap.size) [vi ki 4, vS ⟨#[116, 114, 117, 101]⟩, vi ki 4, vS ⟨#[102, 97, 108, 115, 101]⟩] (by simp))).mono ?_
 rintro e W2 ⟨rfl, hb⟩
 have hk : Kp g _ W2 := Kp.of hb
 have hz2 : W1.heap.size + 1 ≤ W2.heap.size := hzk hk
 have K2 : Hid (Kp g w W2) := (K1.out.trans (Kp.of B1.out.1)).trans hk
 have H2_0 := bxb hk H1_0 B1
 have H2_1 := bxb hk H1_1 B1
 have H2_2 := bxk hk B1 0
 have Q2 : Hid _ := (Q1.out.below B1.out.1).below hb
 clear hl1_0 c1_0_0 c1_0_1 c1_0_2 c1_0_3 hl1_1 c1_1_0 c1_1_1 c1_1_2 B1 H1_0 H1_1 K1 hb
 clear hk
 rw [h4]
 have hl2_0 := H2_0.out.1
 obtain ⟨c2_0_0, c2_0_1, c2_0_2, c2_0_3⟩ := H2_0.out.d4
 have hl2_1 := H2_1.out.1
 have c2_1_0 := H2_1.out.c 0 rfl
 have c2_1_1 := H2_1.out.c 1 rfl
 have c2_1_2 := H2_1.out.c 2 rfl
 go_wp2_with fail
 have B2 := bsm1 W2 [vi ki 5, vS ⟨#[40]⟩] 79
 refine (is_any g b cap T p _ d [(5, b1 40)] (W2.heap.size) 1 _ (Q2.out.below B2.out.1) (by simp) (by omega) (by simp) (B2.out.at (W2.heap.size) [vi ki 5, vS ⟨#[40]⟩] (by simp))).mono ?_
 rintro e W3 ⟨rfl, hb⟩
 have hk : Kp g _ W3 := Kp.of hb
 have hz3 : W2.heap.size + 1 ≤ W3.heap.size := hzk hk
 have K3 : Hid (Kp g w W3) := (K2.out.trans (Kp.of B2.out.1)).trans hk
 have H3_0 := bxb hk H2_0 B2
 have H3_1 := bxb hk H2_1 B2
 have H3_2 := bxb hk H2_2 B2
 have H3_3 := bxk hk B2 0
 have Q3 : Hid _ := (Q2.out.below B2.out.1).below hb
 clear hl2_0 c2_0_0 c2_0_1 c2_0_2 c2_0_3 hl2_1 c2_1_0 c2_1_1 c2_1_2 B2 H2_0 H2_1 H2_2 K2 hb
 clear hk
 rw [h5]
 have hl3_0 := H3_0.out.1
 obtain ⟨c3_0_0, c3_0_1, c3_0_2, c3_0_3⟩ := H3_0.out.d4
 have hl3_1 := H3_1.out.1
 have c3_1_0 := H3_1.out.c 0 rfl
 have c3_1_1 := H3_1.out.c 1 rfl
 have c3_1_2 := H3_1.out.c 2 rfl
 go_wp2_with fail
 refine (isFree_any p.1 p.2.1 p.2.2 _).mono ?_
 rintro e W4 ⟨rfl, hb⟩
 have hk : Kp g _ W4 := Kp.of hb
 have hz4 : W3.heap.size + 0 ≤ W4.heap.size := hzk hk
 have K4 := kph K3 hk
 have H4_0 := bxh hk H3_0
 have H4_1 := bxh hk H3_1
 have H4_2 := bxh hk H3_2
 have H4_3 := bxh hk H3_3
 have Q4 : Hid _ := Q3.out.below hb
 clear hl3_0 c3_0_0 c3_0_1 c3_0_2 c3_0_3 hl3_1 c3_1_0 c3_1_1 c3_1_2 H3_0 H3_1 H3_2 H3_3 K3 hb
 clear hk
 rw [show (p.1, p.2.1, p.2.2) = p from rfl, h6]
 have hl4_0 := H4_0.out.1
 obtain ⟨c4_0_0, c4_0_1, c4_0_2, c4_0_3⟩ := H4_0.out.d4
 go_wp2_with fail
 refine (HM.out _ Q4.out).mono ?_
 rintro e W5 ⟨hk, ho⟩
 have hz5 : W4.heap.size + 0 ≤ W5.heap.size := hzk hk
 have K5 := kph K4 hk
 have H5_0 := bxh hk H4_0
 have H5_1 := bxh hk H4_1
 have H5_2 := bxh hk H4_2
 have H5_3 := bxh hk H4_3
 clear hl4_0 c4_0_0 c4_0_1 c4_0_2 c4_0_3 H4_0 H4_1 H4_2 H4_3 K4
 obtain ⟨hf, rfl⟩ := ho
 have HF := hZz hf
 clear hf hk
 have hl5_0 := H5_0.out.1
 obtain ⟨y0', y1', y2', y3', HFK, HFO, HFS, r0, r1, r2, r3, s0, s1, s2, s3, hrw'⟩ := fin9 (vi ki 0) (vS ⟨#[]⟩) (vL none 0 0) (vi ki 0) K5.out (by omega) (H5_0.out)
 go_wp2
 refine bodyPost_ret (v := .tuple #[.agg #[vi ki 0, vS ⟨#[]⟩, vL none 0 0, vi ki 0], .bool false]) (by simp [results, Tryd.results95, go_sem, y0', y1', y2', y3']) rfl ⟨HFK.out, PF.off HF.out HFO.out HFS.out (by omega), rfl⟩
theorem prim_6ok (g b cap : Nat) (T : List Tk) (p : Tk) (l : List Tk) (d : Nat) (h1 : p.1 ≠ 1) (h2 : p.1 ≠ 2) (h3 : p.1 ≠ 3) (h4 : isT p [(4, trueB), (4, falseB)] = false) (h5 : isT p [(5, b1 40)] = false) (h6 : free p = true) (n : Nd) (l1 : List Tk) (HM : Hid (∀ w : World, PS g b cap T w (p :: l) (d) → Calls Tryd.prog 99 #[.pointer (some ⟨g, 0, none⟩)] w fun e w' => Kp g w w' ∧ Out g b cap T (fun c => w.heap.size ≤ c) w' (d) e (.ok n l1))) (w : World) (h : PS g b cap T w (p :: l) d) :
  Calls Tryd.prog 95 #[.pointer (some ⟨g, 0, none⟩)] w fun e w' => Kp g w w' ∧ Out g b cap T (fun c => w.heap.size ≤ c) w' d e (.ok n l1) := by
 have HP0 : Hid _ := h
 have hg := h.lt
 have hbl := h.tr.1
 obtain ⟨⟨pre, pa, pe, he, hbx⟩, htr, hne, hle, hmost⟩ := h
 have cg := hbx.c 0 rfl
 obtain ⟨t0, t1, t2⟩ := htr.at he
 have hlen : T.length = pre.length + l.length + 1 := by rw [he]; simp <;> omega
 unfold maxLen at hmost
 have HEQ : Hid _ := he
 clear hbx htr he
 have k1 : (p.1 == 1) = false := by simpa using h1
 have k2 : (p.1 == 2) = false := by simpa using h2
 have k3 : (p.1 == 3) = false := by simpa using h3
 go_enter Tryd.func95, Tryd.ntmps95
 go_upto_region 2 with fail
 have B0 := bsm2 w [vi ki 0, vS ⟨#[]⟩, vL none 0 0, vi ki 0] 24 [vi ki p.1, vS p.2.1, vi ki p.2.2] 81
 refine gen_to (BS w _) B0.out ?_
 intro W1 hB
 have hz1 : w.heap.size + 2 ≤ W1.heap.size := by have := (hB.at (w.heap.size + 1) [vi ki p.1, vS p.2.1, vi ki p.2.2] (by simp)).1; (try simp at this); omega
 have K1 := kpo g hB
 have H1_0 := bxi hB 1
 have H1_1 := bxi hB 0
 have Q1 : Hid _ := HP0.out.below hB.1
 clear B0 HP0 hB
 clear cg t0 t1 t2 HEQ hlen hmost hle hne
 have hl1_0 := H1_0.out.1
 obtain ⟨c1_0_0, c1_0_1, c1_0_2, c1_0_3⟩ := H1_0.out.d4
 have hl1_1 := H1_1.out.1
 have c1_1_0 := H1_1.out.c 0 rfl
 have c1_1_1 := H1_1.out.c 1 rfl
 have c1_1_2 := H1_1.out.c 2 rfl
 go_wp2_with fail
 have B1 := bsm1 W1 [vi ki 4, vS ⟨#[116, 114, 117, 101]⟩, vi ki 4, vS ⟨#[102, 97, 108, 115, 101]⟩] 79
 refine (is_any g b cap T p _ d [(4, trueB), (4, falseB)] (W1.heap.size) 2 _ (Q1.out.below B1.out.1) (by simp) (by omega) (by simp) (B1.out.at (W1.heap.size) [vi ki 4, vS ⟨#[116, 114, 117, 101]⟩, vi ki 4, vS ⟨#[102, 97, 108, 115, 101]⟩] (by simp))).mono ?_
 rintro e W2 ⟨rfl, hb⟩
 have hk : Kp g _ W2 := Kp.of hb
 have hz2 : W1.heap.size + 1 ≤ W2.heap.size := hzk hk
 have K2 : Hid (Kp g w W2) := (K1.out.trans (Kp.of B1.out.1)).trans hk
 have H2_0 := bxb hk H1_0 B1
 have H2_1 := bxb hk H1_1 B1
 have H2_2 := bxk hk B1 0
 have Q2 : Hid _ := (Q1.out.below B1.out.1).below hb
 clear hl1_0 c1_0_0 c1_0_1 c1_0_2 c1_0_3 hl1_1 c1_1_0 c1_1_1 c1_1_2 B1 H1_0 H1_1 K1 hb
 clear hk
 rw [h4]
 have hl2_0 := H2_0.out.1
 obtain ⟨c2_0_0, c2_0_1, c2_0_2, c2_0_3⟩ := H2_0.out.d4
 have hl2_1 := H2_1.out.1
 have c2_1_0 := H2_1.out.c 0 rfl
 have c2_1_1 := H2_1.out.c 1 rfl
 have c2_1_2 := H2_1.out.c 2 rfl
 go_wp2_with fail
 have B2 := bsm1 W2 [vi ki 5, vS ⟨#[40]⟩] 79
 refine (is_any g b cap T p _ d [(5, b1 40)] (W2.heap.size) 1 _ (Q2.out.below B2.out.1) (by simp) (by omega) (by simp) (B2.out.at (W2.heap.size) [vi ki 5, vS ⟨#[40]⟩] (by simp))).mono ?_
 rintro e W3 ⟨rfl, hb⟩
 have hk : Kp g _ W3 := Kp.of hb
 have hz3 : W2.heap.size + 1 ≤ W3.heap.size := hzk hk
 have K3 : Hid (Kp g w W3) := (K2.out.trans (Kp.of B2.out.1)).trans hk
 have H3_0 := bxb hk H2_0 B2
 have H3_1 := bxb hk H2_1 B2
 have H3_2 := bxb hk H2_2 B2
 have H3_3 := bxk hk B2 0
 have Q3 : Hid _ := (Q2.out.below B2.out.1).below hb
 clear hl2_0 c2_0_0 c2_0_1 c2_0_2 c2_0_3 hl2_1 c2_1_0 c2_1_1 c2_1_2 B2 H2_0 H2_1 H2_2 K2 hb
 clear hk
 rw [h5]
 have hl3_0 := H3_0.out.1
 obtain ⟨c3_0_0, c3_0_1, c3_0_2, c3_0_3⟩ := H3_0.out.d4
 have hl3_1 := H3_1.out.1
 have c3_1_0 := H3_1.out.c 0 rfl
 have c3_1_1 := H3_1.out.c 1 rfl
 have c3_1_2 := H3_1.out.c 2 rfl
 go_wp2_with fail
 refine (isFree_any p.1 p.2.1 p.2.2 _).mono ?_
 rintro e W4 ⟨rfl, hb⟩
 have hk : Kp g _ W4 := Kp.of hb
 have hz4 : W3.heap.size + 0 ≤ W4.heap.size := hzk hk
 have K4 := kph K3 hk
 have H4_0 := bxh hk H3_0
 have H4_1 := bxh hk H3_1
 have H4_2 := bxh hk H3_2
 have H4_3 := bxh hk H3_3
 have Q4 : Hid _ := Q3.out.below hb
 clear hl3_0 c3_0_0 c3_0_1 c3_0_2 c3_0_3 hl3_1 c3_1_0 c3_1_1 c3_1_2 H3_0 H3_1 H3_2 H3_3 K3 hb
 clear hk
 rw [show (p.1, p.2.1, p.2.2) = p from rfl, h6]
 have hl4_0 := H4_0.out.1
 obtain ⟨c4_0_0, c4_0_1, c4_0_2, c4_0_3⟩ := H4_0.out.d4
 go_wp2_with fail
 refine (HM.out _ Q4.out).mono ?_
 rintro e W5 ⟨hk, ho⟩
 have hz5 : W4.heap.size + 0 ≤ W5.heap.size := hzk hk
 have K5 := kph K4 hk
 have H5_0 := bxh hk H4_0
 have H5_1 := bxh hk H4_1
 have H5_2 := bxh hk H4_2
 have H5_3 := bxh hk H4_3
 clear hl4_0 c4_0_0 c4_0_1 c4_0_2 c4_0_3 H4_0 H4_1 H4_2 H4_3 K4
 obtain ⟨hps, hend, k2, u2, sq2, sn2, sc2, a2, rfl, hnd⟩ := ho
 have HQ : Hid _ := hps
 have HE1 : Hid _ := hend
 have HM2 : Hid _ := hnd
 clear hps hend hnd hk
 have hl5_0 := H5_0.out.1
 obtain ⟨y0', y1', y2', y3', HFK, HFO, HFS, r0, r1, r2, r3, s0, s1, s2, s3, hrw'⟩ := fin9 (vi ki k2) (vS u2) (vL sq2 sn2 sc2) (vi ki a2) K5.out (by omega) (H5_0.out)
 go_wp2
 refine bodyPost_ret (v := .tuple #[.agg #[vi ki k2, vS u2, vL sq2 sn2 sc2, vi ki a2], .bool true]) (by simp [results, Tryd.results95, go_sem, y0', y1', y2', y3']) rfl ⟨HFK.out, HQ.out.off HFO.out HFS.out (by omega) (by omega), HE1.out, _, _, _, _, _, _, rfl, HM2.out.off HFO.out HFS.out (fun c hc => ⟨by (try simp at hc ⊢); omega, by (try simp at hc); omega⟩)⟩
theorem prim_7 (g b cap : Nat) (T : List Tk) (p : Tk) (l : List Tk) (d : Nat) (h1 : p.1 ≠ 1) (h2 : p.1 ≠ 2) (h3 : p.1 ≠ 3) (h4 : isT p [(4, trueB), (4, falseB)] = false) (h5 : isT p [(5, b1 40)] = false) (h6 : free p = false) (w : World) (h : PS g b cap T w (p :: l) d) :
  Calls Tryd.prog 95 #[.pointer (some ⟨g, 0, none⟩)] w fun e w' => Kp g w w' ∧ Out g b cap T (fun c => w.heap.size ≤ c) w' d e (.no p.2.2 30) := by
 have HP0 : Hid _ := h
 have hg := h.lt
 have hbl := h.tr.1
 obtain ⟨⟨pre, pa, pe, he, hbx⟩, htr, hne, hle, hmost⟩ := h
 have cg := hbx.c 0 rfl
 obtain ⟨t0, t1, t2⟩ := htr.at he
 have hlen : T.length = pre.length + l.length + 1 := by rw [he]; simp <;> omega
 unfold maxLen at hmost
 have HEQ : Hid _ := he
 clear hbx htr he
 have k1 : (p.1 == 1) = false := by simpa using h1
 have k2 : (p.1 == 2) = false := by simpa using h2
 have k3 : (p.1 == 3) = false := by simpa using h3
 go_enter Tryd.func95, Tryd.ntmps95
 go_upto_region 2 with fail
 have B0 := bsm2 w [vi ki 0, vS ⟨#[]⟩, vL none 0 0, vi ki 0] 24 [vi ki p.1, vS p.2.1, vi ki p.2.2] 81
 refine gen_to (BS w _) B0.out ?_
 intro W1 hB
 have hz1 : w.heap.size + 2 ≤ W1.heap.size := by have := (hB.at (w.heap.size + 1) [vi ki p.1, vS p.2.1, vi ki p.2.2] (by simp)).1; (try simp at this); omega
 have K1 := kpo g hB
 have H1_0 := bxi hB 1
 have H1_1 := bxi hB 0
 have Q1 : Hid _ := HP0.out.below hB.1
 clear B0 HP0 hB
 clear cg t0 t1 t2 HEQ hlen hmost hle hne
 have hl1_0 := H1_0.out.1
 obtain ⟨c1_0_0, c1_0_1, c1_0_2, c1_0_3⟩ := H1_0.out.d4
 have hl1_1 := H1_1.out.1
 have c1_1_0 := H1_1.out.c 0 rfl
 have c1_1_1 := H1_1.out.c 1 rfl
 have c1_1_2 := H1_1.out.c 2 rfl
 go_wp2_with fail
 have B1 := bsm1 W1 [vi ki 4, vS ⟨#[116, 114, 117, 101]⟩, vi ki 4, vS ⟨#[102, 97, 108, 115, 101]⟩] 79
 refine (is_any g b cap T p _ d [(4, trueB), (4, falseB)] (W1.heap.size) 2 _ (Q1.out.below B1.out.1) (by simp) (by omega) (by simp) (B1.out.at (W1.heap.size) [vi ki 4, vS ⟨#[116, 114, 117, 101]⟩, vi ki 4, vS ⟨#[102, 97, 108, 115, 101]⟩] (by simp))).mono ?_
 rintro e W2 ⟨rfl, hb⟩
 have hk : Kp g _ W2 := Kp.of hb
 have hz2 : W1.heap.size + 1 ≤ W2.heap.size := hzk hk
 have K2 : Hid (Kp g w W2) := (K1.out.trans (Kp.of B1.out.1)).trans hk
 have H2_0 := bxb hk H1_0 B1
 have H2_1 := bxb hk H1_1 B1
 have H2_2 := bxk hk B1 0
 have Q2 : Hid _ := (Q1.out.below B1.out.1).below hb
 clear hl1_0 c1_0_0 c1_0_1 c1_0_2 c1_0_3 hl1_1 c1_1_0 c1_1_1 c1_1_2 B1 H1_0 H1_1 K1 hb
 clear hk
 rw [h4]
 have hl2_0 := H2_0.out.1
 obtain ⟨c2_0_0, c2_0_1, c2_0_2, c2_0_3⟩ := H2_0.out.d4
 have hl2_1 := H2_1.out.1
 have c2_1_0 := H2_1.out.c 0 rfl
 have c2_1_1 := H2_1.out.c 1 rfl
 have c2_1_2 := H2_1.out.c 2 rfl
 go_wp2_with fail
 have B2 := bsm1 W2 [vi ki 5, vS ⟨#[40]⟩] 79
 refine (is_any g b cap T p _ d [(5, b1 40)] (W2.heap.size) 1 _ (Q2.out.below B2.out.1) (by simp) (by omega) (by simp) (B2.out.at (W2.heap.size) [vi ki 5, vS ⟨#[40]⟩] (by simp))).mono ?_
 rintro e W3 ⟨rfl, hb⟩
 have hk : Kp g _ W3 := Kp.of hb
 have hz3 : W2.heap.size + 1 ≤ W3.heap.size := hzk hk
 have K3 : Hid (Kp g w W3) := (K2.out.trans (Kp.of B2.out.1)).trans hk
 have H3_0 := bxb hk H2_0 B2
 have H3_1 := bxb hk H2_1 B2
 have H3_2 := bxb hk H2_2 B2
 have H3_3 := bxk hk B2 0
 have Q3 : Hid _ := (Q2.out.below B2.out.1).below hb
 clear hl2_0 c2_0_0 c2_0_1 c2_0_2 c2_0_3 hl2_1 c2_1_0 c2_1_1 c2_1_2 B2 H2_0 H2_1 H2_2 K2 hb
 clear hk
 rw [h5]
 have hl3_0 := H3_0.out.1
 obtain ⟨c3_0_0, c3_0_1, c3_0_2, c3_0_3⟩ := H3_0.out.d4
 have hl3_1 := H3_1.out.1
 have c3_1_0 := H3_1.out.c 0 rfl
 have c3_1_1 := H3_1.out.c 1 rfl
 have c3_1_2 := H3_1.out.c 2 rfl
 go_wp2_with fail
 refine (isFree_any p.1 p.2.1 p.2.2 _).mono ?_
 rintro e W4 ⟨rfl, hb⟩
 have hk : Kp g _ W4 := Kp.of hb
 have hz4 : W3.heap.size + 0 ≤ W4.heap.size := hzk hk
 have K4 := kph K3 hk
 have H4_0 := bxh hk H3_0
 have H4_1 := bxh hk H3_1
 have H4_2 := bxh hk H3_2
 have H4_3 := bxh hk H3_3
 have Q4 : Hid _ := Q3.out.below hb
 clear hl3_0 c3_0_0 c3_0_1 c3_0_2 c3_0_3 hl3_1 c3_1_0 c3_1_1 c3_1_2 H3_0 H3_1 H3_2 H3_3 K3 hb
 clear hk
 rw [show (p.1, p.2.1, p.2.2) = p from rfl, h6]
 have hl4_0 := H4_0.out.1
 obtain ⟨c4_0_0, c4_0_1, c4_0_2, c4_0_3⟩ := H4_0.out.d4
 go_wp2_with fail
 refine (wrong_any g b cap T p _ d _ Q4.out).mono ?_
 rintro e W5 ⟨rfl, hk, hf⟩
 have hz5 : W4.heap.size + 0 ≤ W5.heap.size := hzk hk
 have K5 := kph K4 hk
 have H5_0 := bxh hk H4_0
 have H5_1 := bxh hk H4_1
 have H5_2 := bxh hk H4_2
 have H5_3 := bxh hk H4_3
 clear hl4_0 c4_0_0 c4_0_1 c4_0_2 c4_0_3 H4_0 H4_1 H4_2 H4_3 K4
 have HF := hZz hf
 clear hf hk
 have hl5_0 := H5_0.out.1
 obtain ⟨y0', y1', y2', y3', HFK, HFO, HFS, r0, r1, r2, r3, s0, s1, s2, s3, hrw'⟩ := fin9 (vi ki 0) (vS ⟨#[]⟩) (vL none 0 0) (vi ki 0) K5.out (by omega) (H5_0.out)
 go_wp2
 refine bodyPost_ret (v := .tuple #[.agg #[vi ki 0, vS ⟨#[]⟩, vL none 0 0, vi ki 0], .bool false]) (by simp [results, Tryd.results95, go_sem, y0', y1', y2', y3']) rfl ⟨HFK.out, PF.off HF.out HFO.out HFS.out (by omega), rfl⟩
theorem prim_lv (g b cap : Nat) (T : List Tk) (N : Nat) (hNN : N ≤ 100000) (HM : LvOk g b cap T 27 0 N) : LvOk g b cap T 95 9 (N + 1) := by
 intro w L d f h hL hd hN hf
 obtain ⟨p, l, rfl⟩ := hL.cons
 obtain ⟨f, rfl⟩ : ∃ f', f = f' + 1 := ⟨f - 1, by simp only [need, zl] at hf; omega⟩
 simp only [need, zl] at hf hN
 rw [par_succ]; unfold pst; dsimp only
 rw [if_neg (by omega), if_neg (by omega), if_neg (by omega), if_neg (by omega), if_neg (by omega), if_pos rfl]
 by_cases c1 : p.1 = 1
 ·rw [if_pos c1]
  have hE := hL.tail (by omega : p.1 ≠ 0)
  obtain ⟨y, l2, rfl⟩ := hE.cons
  exact prim_1 g b cap T p d y l2 hE c1 w h
 rw [if_neg c1]
 by_cases c2 : p.1 = 2
 ·rw [if_pos c2]
  have hE := hL.tail (by omega : p.1 ≠ 0)
  obtain ⟨y, l2, rfl⟩ := hE.cons
  exact prim_2 g b cap T p d y l2 hE c2 w h
 rw [if_neg c2]
 by_cases c3 : p.1 = 3
 ·rw [if_pos c3]
  have hE := hL.tail (by omega : p.1 ≠ 0)
  obtain ⟨y, l2, rfl⟩ := hE.cons
  exact prim_3 g b cap T p d y l2 hE c3 w h
 rw [if_neg c3]
 by_cases c4 : isT p [(4, trueB), (4, falseB)] = true
 ·rw [if_pos c4]
  have hE := hL.tail (isT_kind c4 (by simp))
  obtain ⟨y, l2, rfl⟩ := hE.cons
  exact prim_4 g b cap T p d y l2 hE c1 c2 c3 c4 w h
 rw [if_neg c4]
 have c4' : isT p [(4, trueB), (4, falseB)] = false := by simpa using c4
 by_cases c5 : isT p [(5, b1 40)] = true
 ·rw [if_pos c5]
  have hE := hL.tail (isT_kind c5 (by simp))
  obtain ⟨y, l2, rfl⟩ := hE.cons
  by_cases h20 : d = 20
  ·subst h20
   rw [if_pos rfl]
   exact prim_5full g b cap T p y l2 c1 c2 c3 c4' c5 w h
  ·rw [if_neg h20]
   simp only [zl] at hN hf
   have HC : ∀ V : World, PS g b cap T V (y :: l2) (d + 1) → Calls Tryd.prog 98 #[.pointer (some ⟨g, 0, none⟩)] V fun e w' => Kp g V w' ∧ Out g b cap T (fun c => V.heap.size ≤ c) w' (d + 1) e (innR (par f (.lv 0) (d + 1) (y :: l2))) := fun V hV => inner_any g b cap T N HM (y :: l2) (d + 1) f hE (by omega) (by simp only [zl]; omega) (by simp only [need, zl]; omega) V hV
   have e1 : (match par f (.lv 0) (d + 1) (y :: l2) with
     | .no a e => PR.no a e
     | .ok n [] => .no 0 0
     | .ok n (q :: l1) => if isT q [(5, b1 41)] then .ok n l1 else .no q.2.2 30) = innR (par f (.lv 0) (d + 1) (y :: l2)) := by
    cases par f (.lv 0) (d + 1) (y :: l2) with
    | no a e => rfl
    | ok n l1 => cases l1 <;> rfl
   have e2 : ∀ R, (match R with
     | PR.no a e => PR.no a e
     | .ok n [] => .no 0 0
     | .ok n (q :: l1) => if isT q [(5, b1 41)] then .ok n l1 else .no q.2.2 30) = innR R := by
    intro R; cases R with
    | no a e => rfl
    | ok n l1 => cases l1 <;> rfl
   have goal : ∀ R, R = innR (par f (.lv 0) (d + 1) (y :: l2)) → Calls Tryd.prog 95 #[.pointer (some ⟨g, 0, none⟩)] w fun e w' => Kp g w w' ∧ Out g b cap T (fun c => w.heap.size ≤ c) w' d e R := by
    intro R hR
    cases hr : innR (par f (.lv 0) (d + 1) (y :: l2)) with
    | no ea er => rw [hr] at HC hR; subst hR; exact prim_5no g b cap T p d y l2 c1 c2 c3 c4' c5 (by omega) ea er HC w h
    | ok n l1 => rw [hr] at HC hR; subst hR; exact prim_5ok g b cap T p d y l2 c1 c2 c3 c4' c5 (by omega) n l1 HC w h
   refine goal _ ?_
   cases par f (.lv 0) (d + 1) (y :: l2) with
   | no a e => rfl
   | ok n l1 => cases l1 <;> rfl
 rw [if_neg c5]
 have c5' : isT p [(5, b1 40)] = false := by simpa using c5
 by_cases c6 : free p = true
 ·rw [if_pos c6]
  have hE := hL.tail (free_kind c6)
  have HC : ∀ V : World, PS g b cap T V (p :: l) d → Calls Tryd.prog 99 #[.pointer (some ⟨g, 0, none⟩)] V fun e w' => Kp g V w' ∧ Out g b cap T (fun c => V.heap.size ≤ c) w' d e (nmR (par f) d p l) := fun V hV => named_any g b cap T N hNN HM p l d f hE hd (by omega) (by omega) V hV
  have goal : ∀ R, R = nmR (par f) d p l → Calls Tryd.prog 95 #[.pointer (some ⟨g, 0, none⟩)] w fun e w' => Kp g w w' ∧ Out g b cap T (fun c => w.heap.size ≤ c) w' d e R := by
   intro R hR
   cases hr : nmR (par f) d p l with
   | no ea er => rw [hr] at HC hR; subst hR; exact prim_6no g b cap T p l d c1 c2 c3 c4' c5' c6 ea er HC w h
   | ok n l1 => rw [hr] at HC hR; subst hR; exact prim_6ok g b cap T p l d c1 c2 c3 c4' c5' c6 n l1 HC w h
  refine goal _ ?_
  obtain ⟨q, l1, rfl⟩ := hE.cons
  cases l1 with
  | nil => rfl
  | cons u l2 => rfl
 ·rw [if_neg c6]
  exact prim_7 g b cap T p l d c1 c2 c3 c4' c5' (by simpa using c6) w h
theorem expr_all (g b cap : Nat) (T : List Tk) : ∀ N : Nat, N ≤ 100000 → LvOk g b cap T 27 0 N ∧ LvOk g b cap T 64 2 N ∧ LvOk g b cap T 92 6 N
 | 0, _ => by
  refine ⟨?_, ?_, ?_⟩ <;> (intro w L d f h hL hd hN hf; obtain ⟨p, l, rfl⟩ := hL.cons; simp at hN)
 | N + 1, hN => by
  obtain ⟨h0, h2, h6⟩ := expr_all g b cap T N (by omega)
  have p9 := prim_lv g b cap T N (by omega) h0
  have p8 := cast_lv g b cap T (N + 1) p9
  have p7 := zone_lv g b cap T (N + 1) p8
  have p6 := unary_lv g b cap T N p7 h6
  have p5 := term_lv g b cap T (N + 1) p6
  have p4 := sum_lv g b cap T (N + 1) p5
  have p3 := cmp_lv g b cap T (N + 1) p4
  have p2 := not_lv g b cap T N p3 h2
  have p1 := and_lv g b cap T (N + 1) p2
  exact ⟨expr_lv g b cap T (N + 1) p1, p2, p6⟩
end Go.Proofs.YtaoocecipacnhaaDoor
