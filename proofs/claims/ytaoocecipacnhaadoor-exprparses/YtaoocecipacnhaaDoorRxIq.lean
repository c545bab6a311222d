/- The reference's parse: not and minus. -/
import Derived.Test.YtaoocecipacnhaaDoorRxHq
import Derived.Test.YtaoocecipacnhaaDoorExTkq
namespace Go.Proofs.YtaoocecipacnhaaDoor
open Go.RowKit
set_option linter.unusedVariables false

/-- a row of one node, made by append. -/
theorem row_one {V : World} {base : Nat} {X : Nat → Prop} {v : Value} {n : Nd} {c0 c1 c2 c3 : Value} (h : V.ownsRow base 30 4 v 1 [c0, c1, c2, c3]) (hn : NdAt X V n [c0, c1, c2, c3]) :
    ∃ R cap, v = .slice (some ⟨R, 0, none⟩) 1 cap ∧ 1 ≤ cap ∧ cap ≤ maxLen ∧ base ≤ R ∧ R < V.heap.size ∧ RwAt X V R 0 [n] := by
  rcases h.2 with ⟨_, z⟩ | ⟨R, cap, cur, e, h1, h2, h3, h4, _⟩
  · cases z
  · subst e
    refine ⟨R, cap, rfl, h3, h4, h1, (Array.getElem?_eq_some_iff.1 h2).1, ?_⟩
    have c := fun j hj => h.cellAt j hj
    rw [RwAt]
    exact ⟨⟨c0, c1, c2, c3, c 0 (by omega), c 1 (by omega), c 2 (by omega), c 3 (by omega), hn⟩, by rw [RwAt]; trivial⟩
theorem grown_below {w W : World} (h : w.grownBy W none) : Below w.heap.size w W := ⟨h.os, h.tape, h.output, h.size, fun c hc => h.block c hc (fun q => by cases q)⟩

theorem infoNode22 : (Tryd.prog.info? 30).map (fun i => (i.zero, i.size, i.bytes)) = some (some (.agg #[.int .i64 0, .string ByteArray.empty, .slice none 0 0, .int .i64 0]), 4, 56) := by kernel_rfl

set_option maxRecDepth 100000 in
set_option maxHeartbeats 4000000 in
theorem rlv_2 (g b cap : Nat) (T : List Tk) (hG : Hid (∀ x ∈ T, GoodT x)) (N : Nat) (HA : Hid (RLv g b cap T 3 N)) (HB : Hid (RLv g b cap T 2 (N - 1))) : RLv g b cap T 2 N := by
  intro w L d f h hL hd hN hf
  obtain ⟨i0, hi0, iz0, iz1, iz2⟩ := info_parts infoNode22
  obtain ⟨r, l, rfl⟩ := mL_none hL
  obtain ⟨f, rfl⟩ : ∃ f', f = f' + 1 := ⟨f - 1, by simp only [need, mL_cons, List.length_cons] at hf; omega⟩
  have HGr : Hid (GoodT r) := h.good hG.out
  simp only [need, mL_cons, List.length_cons, mL_len] at hf hN
  have HL : Hid (EndL (mL (r :: l))) := hL
  have eP : par (f + 1) (.lv 2) d (mL (r :: l)) = (if isT (mT r) [(4, notB)] then (if d = 20 then PR.no r.2.2 31 else match par f (.lv 2) (d + 1) (mL l) with | .ok n l1 => PR.ok (.mk 7 ByteArray.empty [n] r.2.2) l1 | .no a e => PR.no a e) else par f (.lv 3) d (mT r :: mL l)) := by
    rw [mL_cons, par_succ]; unfold pst; dsimp only
    rw [if_pos rfl]
    rfl
  obtain ⟨R, hR⟩ : ∃ R, par (f + 1) (.lv 2) d (mL (r :: l)) = R := ⟨_, rfl⟩
  rw [hR]
  rw [eP] at hR
  clear eP hL
  have hsg := sg_word HGr.out (show notB ∈ wrdL by unfold wrdL; simp)
  have hg := h.lt
  have hbl := h.tr.1
  have HP : Hid (RS g b cap T w (r :: l) d) := h
  obtain ⟨⟨pre, pa, he, hbx⟩, htr, hne, hle, hmost⟩ := id h
  have cg0 := hbx.c 0 rfl
  have cg1 := hbx.c 1 rfl
  have cg2 := hbx.c 2 rfl
  have fg0 := hbx.f 0 rfl
  have fg1 := hbx.f 1 rfl
  obtain ⟨t0, t1, t2⟩ := htr.at he
  have hgW := hbx.1
  have hbW := htr.1
  have hlen : T.length = pre.length + l.length + 1 := by rw [he]; simp <;> omega
  unfold maxLen at hmost
  have HEQ : Hid _ := he
  have HBX : Hid (Bx _ g _) := hbx
  have HTR : Hid (TR _ b T) := htr
  clear hbx htr he
  clear h
  have B0 : Hid (BS w [(w.heap.size, [.int .i64 0, .string ⟨#[]⟩, .slice none 0 0, .int .i64 0])] (w.alloc (.cells #[.int .i64 0, .string ⟨#[]⟩, .slice none 0 0, .int .i64 0] 30))) := ((BS.start w).new [.int .i64 0, .string ⟨#[]⟩, .slice none 0 0, .int .i64 0] 30 rfl)
  have HP0 : Hid (RS g b cap T (w.alloc (.cells #[.int .i64 0, .string ⟨#[]⟩, .slice none 0 0, .int .i64 0] 30)) (r :: l) d) := HP.out.below B0.out.1
  by_cases hi : isT (mT r) [(4, notB)] = true
  · rw [hi] at hsg
    rw [if_pos hi] at hR
    have hEl : EndL (mL l) := EndL.tail HL.out (isT_kind hi (by simp))
    obtain ⟨q, l0, rfl⟩ := mL_none hEl
    have HE1 : Hid (EndL (mL (q :: l0))) := hEl
    have HSi := rsign_any g b cap T (q :: l0) r HGr.out notB (fun _ => by simp) d _ HP0.out
    rw [hsg, if_pos rfl] at HSi
    have HSg : Hid _ := HSi
    have HRR : Hid _ := hR
    clear HSi hsg hEl hi hR
    go_enter Tryd.func18, Tryd.ntmps18
    go_wp2_with fail
    refine Calls.mono HSg.out ?_
    rintro e W1 ⟨rfl, hk1, hr1⟩
    have hz1 : w.heap.size + 1 ≤ W1.heap.size := by have := hk1.size; (try simp at this); omega
    have K1 : Hid (Kp g w W1) := (Kp.of B0.out.1).trans hk1
    have H1 : Hid (Bx W1 w.heap.size [.int .i64 0, .string ⟨#[]⟩, .slice none 0 0, .int .i64 0]) := hk1.bx B0.out.first (by omega)
    have S1 : Hid (RS g b cap T W1 (q :: l0) d) := hr1
    have HGq : Hid (GoodT q) := hr1.good hG.out
    clear hk1 hr1 B0 HP HP0 HSg cg0 cg1 cg2 fg0 fg1 t0 t1 t2 hgW hbW hlen hmost hle HEQ HBX HTR hne
    by_cases h20 : d = 20
    · have HR9 : Hid (R = .no r.2.2 31) := by have := HRR.out; rw [if_pos h20] at this; exact this.symm
      subst h20
      have HIn : Hid _ := rinner_no g b (w.heap.size + 1) cap T l0 q HGq.out.size r.2.2 W1 S1.out
      clear HRR
      go_wp2_with fail
      refine Calls.mono HIn.out ?_
      rintro e W6 ⟨rfl, hk6, hf6⟩
      have K9 : Hid (Kp g w W6) := K1.out.trans hk6
      have H9 : Hid (Bx W6 w.heap.size [.int .i64 0, .string ⟨#[]⟩, .slice none 0 0, .int .i64 0]) := hk6.bx H1.out (by omega)
      have HF6 : Hid (RF g b (w.heap.size + 1) W6 r.2.2 31) := hf6
      clear hk6 hf6 HIn K1 H1 S1
      obtain ⟨FK, FB, FO, FS⟩ := fin4 [] (.int .i64 0) (.string ⟨#[]⟩) (.slice none 0 0) (.int .i64 0) K9.out (Nat.le_refl _) (H9.out)
      have y0' := FB.c 0 rfl
      have y1' := FB.c 1 rfl
      have y2' := FB.c 2 rfl
      have y3' := FB.c 3 rfl
      simp only [List.foldl, World.setCells, Nat.zero_add, Nat.reduceAdd] at y0' y1' y2' y3'
      have HFK : Hid _ := FK
      have HFO : Hid _ := FO
      have HFS : Hid _ := FS
      clear FK FB FO FS
      have rr0 := (H9.out).c 0 rfl
      have rr1 := (H9.out).c 1 rfl
      have rr2 := (H9.out).c 2 rfl
      have rr3 := (H9.out).c 3 rfl
      have rf0 := (H9.out).f 0 rfl
      have rf1 := (H9.out).f 1 rfl
      have rf2 := (H9.out).f 2 rfl
      have rf3 := (H9.out).f 3 rfl
      have hrw' := (H9.out).1
      go_wp2
      refine bodyPost_ret (v := .agg #[.int .i64 0, .string ⟨#[]⟩, .slice none 0 0, .int .i64 0]) (by simp [results, Tryd.results18, go_sem, y0', y1', y2', y3']) rfl ⟨HFK.out, by rw [HR9.out]; exact ⟨by decide, (HF6.out.off HFO.out HFS.out (by omega) (by omega) (by omega)).mono (by omega), _, _, _, _, _, _, rfl⟩⟩
    · have HR8 : Hid _ := HRR.out
      rw [if_neg h20] at HR8
      have HIn : Hid _ := rinner_ok g b cap T l0 q d (by omega) r.2.2 W1 S1.out
      clear HRR
      go_wp2_with fail
      refine Calls.mono HIn.out ?_
      rintro e W3 ⟨rfl, hk3, hr3⟩
      have hz3 : w.heap.size + 1 ≤ W3.heap.size := by have := hk3.size; omega
      obtain ⟨B, hB⟩ : ∃ B, B = W3.heap.size := ⟨_, rfl⟩
      have X3 : Hid (BS W3 [(W3.heap.size, [.int .i64 7, .string ⟨#[]⟩, .slice none 0 0, .int .i64 r.2.2])] (W3.alloc (.cells #[.int .i64 7, .string ⟨#[]⟩, .slice none 0 0, .int .i64 r.2.2] 30))) := (BS.start W3).new [.int .i64 7, .string ⟨#[]⟩, .slice none 0 0, .int .i64 r.2.2] 30 rfl
      have X4 : Hid (Kp g w (W3.alloc (.cells #[.int .i64 7, .string ⟨#[]⟩, .slice none 0 0, .int .i64 r.2.2] 30)) ∧ Bx (W3.alloc (.cells #[.int .i64 7, .string ⟨#[]⟩, .slice none 0 0, .int .i64 r.2.2] 30)) w.heap.size [.int .i64 0, .string ⟨#[]⟩, .slice none 0 0, .int .i64 0] ∧ Bx (W3.alloc (.cells #[.int .i64 7, .string ⟨#[]⟩, .slice none 0 0, .int .i64 r.2.2] 30)) B [.int .i64 7, .string ⟨#[]⟩, .slice none 0 0, .int .i64 r.2.2] ∧ RS g b cap T (W3.alloc (.cells #[.int .i64 7, .string ⟨#[]⟩, .slice none 0 0, .int .i64 r.2.2] 30)) (q :: l0) (d + 1)) := ⟨(K1.out.trans hk3).alloc _, (hk3.bx H1.out (by omega)).alloc _, by rw [hB]; exact X3.out.first, hr3.below X3.out.1⟩
      have hBw : w.heap.size + 1 ≤ B := by omega
      have hBg : B ≠ g := by omega
      go_upto_region 15 with fail
      rw [← hB]
      refine gen_to (fun V => Kp g w V ∧ Bx V w.heap.size [.int .i64 0, .string ⟨#[]⟩, .slice none 0 0, .int .i64 0] ∧ Bx V B [.int .i64 7, .string ⟨#[]⟩, .slice none 0 0, .int .i64 r.2.2] ∧ RS g b cap T V (q :: l0) (d + 1)) X4.out ?_
      clear X3 X4 hk3 hr3 K1 H1 S1 HIn hB
      intro W5 hW5
      have KK : Hid (Kp g w W5 ∧ Bx W5 w.heap.size [.int .i64 0, .string ⟨#[]⟩, .slice none 0 0, .int .i64 0] ∧ Bx W5 B [.int .i64 7, .string ⟨#[]⟩, .slice none 0 0, .int .i64 r.2.2] ∧ RS g b cap T W5 (q :: l0) (d + 1)) := hW5
      clear hW5
      have HC := HB.out
      have hN1 : (q :: l0).length ≤ N - 1 := by simp only [List.length_cons] at hN ⊢; omega
      have hf1 : need (.lv 2) (mL (q :: l0)) ≤ f := by simp only [need, mL_len]; omega
      have HCC : Hid (∀ V : World, RS g b cap T V (q :: l0) (d + 1) → Calls Tryd.prog 18 #[.pointer (some ⟨g, 0, none⟩), .int .i64 2] V fun e w' => Kp g V w' ∧ ROut g b V.heap.size cap T (fun c => V.heap.size ≤ c) w' (d + 1) e (par f (.lv 2) (d + 1) (mL (q :: l0)))) := fun V hV => HC V _ (d + 1) f hV HE1.out (by omega) hN1 hf1
      clear HC
      cases hr : par f (.lv 2) (d + 1) (mL (q :: l0)) with
      | no ea er =>
        rw [hr] at HCC
        have HR9 : Hid (R = .no ea er) := by have := HR8.out; rw [hr] at this; exact this.symm
        clear hr HR8
        refine wp_region_held_drew (S := fun _ => True) (by kernel_rfl) trivial (fun hHeld => ?_)
        refine gen_anyR (fun V => Kp g w V ∧ Bx V w.heap.size [.int .i64 0, .string ⟨#[]⟩, .slice none 0 0, .int .i64 0] ∧ Bx V B [.int .i64 7, .string ⟨#[]⟩, .slice none 0 0, .int .i64 r.2.2] ∧ RS g b cap T V (q :: l0) (d + 1)) ⟨KK.out.1.drew, KK.out.2.1, KK.out.2.2.1, KK.out.2.2.2.drew⟩ ?_
        clear hHeld KK
        intro W6 hW6
        have KK : Hid (Kp g w W6 ∧ Bx W6 w.heap.size [.int .i64 0, .string ⟨#[]⟩, .slice none 0 0, .int .i64 0] ∧ Bx W6 B [.int .i64 7, .string ⟨#[]⟩, .slice none 0 0, .int .i64 r.2.2] ∧ RS g b cap T W6 (q :: l0) (d + 1)) := hW6
        clear hW6
        have hHeld : True := trivial
        refine wpAnyH_take (i := 0) (v := ?_) (oi := { dst := some 51, op := _, type := _, pos := _, after := _, guard := none }) rfl (by kernel_rfl) (by kernel_rfl) (by kernel_rfl) (fun _ _ _ h => h) (Or.inl ⟨by kernel_rfl, ?_⟩) (by assumption) ?_
        case refine_2 => (intro w9 hSw; clear hSw; go_simp; try with_reducible rfl)
        simp only [Act.put, List.setIfInBounds_toArray, List.set_cons_zero, List.set_cons_succ]
        refine wpAnyH_take (i := 2) (v := ?_) (oi := { dst := some 53, op := _, type := _, pos := _, after := _, guard := none }) rfl (by kernel_rfl) (by kernel_rfl) (by kernel_rfl) (fun _ _ _ h => h) (Or.inl ⟨by kernel_rfl, ?_⟩) (by assumption) ?_
        case refine_2 => (intro w9 hSw; clear hSw; go_simp; try with_reducible rfl)
        simp only [Act.put, List.setIfInBounds_toArray, List.set_cons_zero, List.set_cons_succ]
        refine wpAnyH_take (i := 3) (v := ?_) (oi := { dst := some 54, op := _, type := _, pos := _, after := _, guard := none }) rfl (by kernel_rfl) (by kernel_rfl) (by kernel_rfl) (fun _ _ _ h => h) (Or.inl ⟨by kernel_rfl, ?_⟩) (by assumption) ?_
        case refine_2 => (intro w9 hSw; clear hSw; go_simp; try with_reducible rfl)
        simp only [Act.put, List.setIfInBounds_toArray, List.set_cons_zero, List.set_cons_succ]
        refine wpAnyH_ready (rs := [1, 4]) (by kernel_rfl) (by simp) (AllReadyH.cons (o := { dst := some 52, op := _, type := _, pos := _, after := _, guard := none }) rfl (fun K hK => ?_) (AllReadyH.cons (o := { dst := some 55, op := _, type := _, pos := _, after := _, guard := none }) rfl (fun K hK => ?_) AllReadyH.nil))
        ·
          have q0 := KK.out.2.2.1.c 2 rfl
          have q9 := KK.out.2.2.1.1
          go_simp
          refine hK.out _ _ trivial (fun hHeld => ?_)
          clear hK K q0 q9
          refine wpAnyH_ready (rs := [4]) (by kernel_rfl) (by simp) (AllReadyH.cons (o := { dst := some 55, op := _, type := _, pos := _, after := _, guard := none }) rfl (fun K hK => ?_) AllReadyH.nil)
          go_simp
          refine (HCC.out _ KK.out.2.2.2).mono ?_
          have hq9 := KK.out.2.2.1.1
          rintro e v2 ⟨hk2, her, hf, k9, u9, sq9, sn9, sc9, a9, rfl⟩
          refine hK.out _ _ trivial (fun hHeld => ?_)
          have HER : Hid (er ≠ 0) := her
          replace KK : Hid (Kp g w v2 ∧ Bx v2 w.heap.size [.int .i64 0, .string ⟨#[]⟩, .slice none 0 0, .int .i64 0] ∧ Bx v2 B [.int .i64 7, .string ⟨#[]⟩, .slice none 0 0, .int .i64 r.2.2] ∧ RF g b (B + 1) v2 ea er) := ⟨KK.out.1.trans hk2, hk2.bx KK.out.2.1 (by omega), hk2.bx KK.out.2.2.1 hBg, hf.mono (by omega)⟩
          clear hK K hk2 hf her hq9
          refine wpAnyH_ready (rs := [5]) (by kernel_rfl) (by simp) (AllReadyH.cons (o := { dst := some 56, op := _, type := _, pos := _, after := _, guard := none }) rfl (fun K hK => ?_) AllReadyH.nil)
          have hwB := KK.out.2.2.1.1
          go_simp
          refine hK.out _ _ trivial (fun hHeld => ?_)
          obtain ⟨BR, hBR⟩ : ∃ BR, BR = v2.heap.size := ⟨_, rfl⟩
          have BN : Hid (BS v2 [(v2.heap.size, [.int .i64 k9, .string u9, .slice sq9 sn9 sc9, .int .i64 a9])] (v2.alloc (.cells #[.int .i64 k9, .string u9, .slice sq9 sn9 sc9, .int .i64 a9] 30))) := (BS.start v2).new [.int .i64 k9, .string u9, .slice sq9 sn9 sc9, .int .i64 a9] 30 rfl
          have KN : Hid ((Kp g w (v2.alloc (.cells #[.int .i64 k9, .string u9, .slice sq9 sn9 sc9, .int .i64 a9] 30)) ∧ Bx (v2.alloc (.cells #[.int .i64 k9, .string u9, .slice sq9 sn9 sc9, .int .i64 a9] 30)) w.heap.size [.int .i64 0, .string ⟨#[]⟩, .slice none 0 0, .int .i64 0] ∧ Bx (v2.alloc (.cells #[.int .i64 k9, .string u9, .slice sq9 sn9 sc9, .int .i64 a9] 30)) B [.int .i64 7, .string ⟨#[]⟩, .slice none 0 0, .int .i64 r.2.2] ∧ RF g b (B + 1) (v2.alloc (.cells #[.int .i64 k9, .string u9, .slice sq9 sn9 sc9, .int .i64 a9] 30)) ea er) ∧ Bx (v2.alloc (.cells #[.int .i64 k9, .string u9, .slice sq9 sn9 sc9, .int .i64 a9] 30)) BR [.int .i64 k9, .string u9, .slice sq9 sn9 sc9, .int .i64 a9]) := ⟨⟨KK.out.1.alloc _, KK.out.2.1.alloc _, KK.out.2.2.1.alloc _, KK.out.2.2.2.below BN.out.1⟩, by rw [hBR]; exact BN.out.first⟩
          refine gen_anyR (fun V' => (Kp g w V' ∧ Bx V' w.heap.size [.int .i64 0, .string ⟨#[]⟩, .slice none 0 0, .int .i64 0] ∧ Bx V' B [.int .i64 7, .string ⟨#[]⟩, .slice none 0 0, .int .i64 r.2.2] ∧ RF g b (B + 1) V' ea er) ∧ Bx V' BR [.int .i64 k9, .string u9, .slice sq9 sn9 sc9, .int .i64 a9]) KN.out ?_
          have hBR1 : B < BR := by omega
          rw [← hBR]
          clear hHeld hK K KN BN hBR hwB KK
          rintro v3 ⟨kk1, kk2⟩
          have KK : Hid (Kp g w v3 ∧ Bx v3 w.heap.size [.int .i64 0, .string ⟨#[]⟩, .slice none 0 0, .int .i64 0] ∧ Bx v3 B [.int .i64 7, .string ⟨#[]⟩, .slice none 0 0, .int .i64 r.2.2] ∧ RF g b (B + 1) v3 ea er) := kk1
          have HRW : Hid (Bx v3 BR [.int .i64 k9, .string u9, .slice sq9 sn9 sc9, .int .i64 a9]) := kk2
          clear kk1 kk2
          have hHeld : True := trivial
          refine wpAnyH_ready (rs := [6]) (by kernel_rfl) (by simp) (AllReadyH.cons (o := { dst := some 57, op := _, type := _, pos := _, after := _, guard := none }) rfl (fun K hK => ?_) AllReadyH.nil)
          refine (if_pos (by kernel_rfl)).mpr (wp_append_new _ _ 28 rfl v3.heap.size 30 i0 (.agg #[.int .i64 0, .string ByteArray.empty, .slice none 0 0, .int .i64 0]) 4 56 Tryd.underlying28 hi0 iz0 iz1 iz2 rfl (by decide) (.slice none 0 0) 0 [] rfl (World.ownsRow_nil _ _ _ _) ⟨BR, 0, none⟩ 1 [.int .i64 k9, .string u9, .slice sq9 sn9 sc9, .int .i64 a9] rfl rfl (fun j u hj => by rw [show (⟨BR, 0, none⟩ : Addr).add j = ⟨BR, j, none⟩ from by rw [Addr.add_lit]; simp]; exact (HRW.out.2 j u hj).1) (by intro u hu; simp at hu; rcases hu with rfl | rfl | rfl | rfl <;> rfl) (by unfold maxLen; omega) (by omega) (Nat.le_refl _) ?_)
          intro v' w4 hown' hgrow hnew
          obtain ⟨sq', sn', sc', hv'⟩ := own_form hown'
          subst hv'
          have hgb : Below _ _ w4 := grown_below hgrow
          have HO : Hid (w4.ownsRow v3.heap.size 30 4 (.slice sq' sn' sc') 1 [.int .i64 k9, .string u9, .slice sq9 sn9 sc9, .int .i64 a9]) := hown'
          have hBV : B < v3.heap.size := KK.out.2.2.1.1
          have K4 : Hid (Kp g w w4 ∧ Bx w4 w.heap.size [.int .i64 0, .string ⟨#[]⟩, .slice none 0 0, .int .i64 0] ∧ Bx w4 B [.int .i64 7, .string ⟨#[]⟩, .slice none 0 0, .int .i64 r.2.2] ∧ RF g b (B + 1) w4 ea er) := ⟨KK.out.1.trans (Kp.of hgb), KK.out.2.1.below hgb, KK.out.2.2.1.below hgb, KK.out.2.2.2.below hgb⟩
          refine hK.out _ _ trivial (fun hHeld => ?_)
          clear hK K hown' hgrow hnew hgb KK HRW
          refine wpAnyH_take (i := 7) (v := ?_) (oi := { dst := some 58, op := _, type := _, pos := _, after := _, guard := none }) rfl (by kernel_rfl) (by kernel_rfl) (by kernel_rfl) (fun _ _ _ h => h) (Or.inl ⟨by kernel_rfl, ?_⟩) (by assumption) ?_
          case refine_2 => (intro w9 hSw; clear hSw; go_simp; try with_reducible rfl)
          simp only [Act.put, List.setIfInBounds_toArray, List.set_cons_zero, List.set_cons_succ]
          refine wpAnyH_ready (rs := [8]) (by kernel_rfl) (by simp) (AllReadyH.cons (o := { dst := none, op := _, type := _, pos := _, after := _, guard := none }) rfl (fun K hK => ?_) AllReadyH.nil)
          have hoff : ∀ c, c < w4.heap.size → c ≠ B → (w4.setCell ⟨B, 2, none⟩ (.slice sq' sn' sc')).heap[c]? = w4.heap[c]? := fun c _ hc => Below.heap_setCell _ _ _ _ hc
          have K7 : Hid (Kp g w (w4.setCell ⟨B, 2, none⟩ (.slice sq' sn' sc')) ∧ Bx (w4.setCell ⟨B, 2, none⟩ (.slice sq' sn' sc')) w.heap.size [.int .i64 0, .string ⟨#[]⟩, .slice none 0 0, .int .i64 0] ∧ Bx (w4.setCell ⟨B, 2, none⟩ (.slice sq' sn' sc')) B [.int .i64 7, .string ⟨#[]⟩, .slice sq' sn' sc', .int .i64 r.2.2] ∧ RF g b (B + 1) (w4.setCell ⟨B, 2, none⟩ (.slice sq' sn' sc')) ea er) := ⟨K4.out.1.set (p := ⟨B, 2, none⟩) (.inr (by show _ ≤ B; omega)) _, K4.out.2.1.setOther (by omega) [_] 2, K4.out.2.2.1.set1 2 _ (by simp), K4.out.2.2.2.off (r := B) hoff (by simp) (by omega) (by omega) (by omega)⟩
          have z2 := K4.out.2.2.1.f 2 rfl
          have c2 := K4.out.2.2.1.c 2 rfl
          have hB4 := K4.out.2.2.1.1
          go_simp
          refine hK.out _ _ trivial (fun hHeld => ?_)
          refine gen_anyR (fun V => Kp g w V ∧ Bx V w.heap.size [.int .i64 0, .string ⟨#[]⟩, .slice none 0 0, .int .i64 0] ∧ Bx V B [.int .i64 7, .string ⟨#[]⟩, .slice sq' sn' sc', .int .i64 r.2.2] ∧ RF g b (B + 1) V ea er) K7.out ?_
          clear hK K z2 c2 hB4 K7 K4 HO hoff hHeld
          intro v5 hv7
          have KK : Hid (Kp g w v5 ∧ Bx v5 w.heap.size [.int .i64 0, .string ⟨#[]⟩, .slice none 0 0, .int .i64 0] ∧ Bx v5 B [.int .i64 7, .string ⟨#[]⟩, .slice sq' sn' sc', .int .i64 r.2.2] ∧ RF g b (B + 1) v5 ea er) := hv7
          clear hv7
          have hHeld : True := trivial
          refine wpAnyH_done (by kernel_rfl) ?_ _
          obtain ⟨c9, o9, n9, m9, D9, i9, z9, t9, hc9, hb9, -⟩ := KK.out.2.2.2
          have cg1 := hb9.c 1 rfl
          have fg1 := hb9.f 1 rfl
          have hgl := hb9.1
          clear hb9 hc9
          go_upto_region 17 with fail
          refine gen_to (fun V => Kp g w V ∧ Bx V w.heap.size [.int .i64 0, .string ⟨#[]⟩, .slice none 0 0, .int .i64 0] ∧ RF g b (B + 1) V ea er ∧ Bx V B [.int .i64 7, .string ⟨#[]⟩, .slice sq' sn' sc', .int .i64 r.2.2]) (rdeep_bad hg KK.out.1 KK.out.2.1 (by omega) KK.out.2.2.2 KK.out.2.2.1 hBg) ?_
          rintro W8 ⟨k8, h8, f8, t8⟩
          have HK5 : Hid (Kp g w W8) := k8
          have HH5 : Hid (Bx W8 w.heap.size [.int .i64 0, .string ⟨#[]⟩, .slice none 0 0, .int .i64 0]) := h8
          have HF5 : Hid (RF g b (B + 1) W8 ea er) := f8
          have l0' := t8.c 0 rfl
          have l1' := t8.c 1 rfl
          have l2' := t8.c 2 rfl
          have l3' := t8.c 3 rfl
          have hl' := t8.1
          clear k8 h8 f8 t8 cg1 fg1 hgl KK hHeld
          obtain ⟨FK, FB, FO, FS⟩ := fin4 [] (.int .i64 7) (.string ⟨#[]⟩) (.slice sq' sn' sc') (.int .i64 r.2.2) HK5.out (Nat.le_refl _) (HH5.out)
          have y0' := FB.c 0 rfl
          have y1' := FB.c 1 rfl
          have y2' := FB.c 2 rfl
          have y3' := FB.c 3 rfl
          simp only [List.foldl, World.setCells, Nat.zero_add, Nat.reduceAdd] at y0' y1' y2' y3'
          have HFK : Hid _ := FK
          have HFO : Hid _ := FO
          have HFS : Hid _ := FS
          clear FK FB FO FS
          have rr0 := (HH5.out).c 0 rfl
          have rr1 := (HH5.out).c 1 rfl
          have rr2 := (HH5.out).c 2 rfl
          have rr3 := (HH5.out).c 3 rfl
          have rf0 := (HH5.out).f 0 rfl
          have rf1 := (HH5.out).f 1 rfl
          have rf2 := (HH5.out).f 2 rfl
          have rf3 := (HH5.out).f 3 rfl
          have hrw' := (HH5.out).1
          go_wp2
          refine bodyPost_ret (v := .agg #[.int .i64 7, .string ⟨#[]⟩, .slice sq' sn' sc', .int .i64 r.2.2]) (by simp [results, Tryd.results18, go_sem, y0', y1', y2', y3']) rfl ⟨HFK.out, by rw [HR9.out]; exact ⟨HER.out, (HF5.out.off HFO.out HFS.out (by omega) (by omega) (by omega)).mono (by omega), _, _, _, _, _, _, rfl⟩⟩
        ·
          go_simp
          refine (HCC.out _ KK.out.2.2.2).mono ?_
          have hq9 := KK.out.2.2.1.1
          rintro e v6 ⟨hk6, her, hf, k9, u9, sq9, sn9, sc9, a9, rfl⟩
          refine hK.out _ _ trivial (fun hHeld => ?_)
          have HER : Hid (er ≠ 0) := her
          replace KK : Hid (Kp g w v6 ∧ Bx v6 w.heap.size [.int .i64 0, .string ⟨#[]⟩, .slice none 0 0, .int .i64 0] ∧ Bx v6 B [.int .i64 7, .string ⟨#[]⟩, .slice none 0 0, .int .i64 r.2.2] ∧ RF g b (B + 1) v6 ea er) := ⟨KK.out.1.trans hk6, hk6.bx KK.out.2.1 (by omega), hk6.bx KK.out.2.2.1 hBg, hf.mono (by omega)⟩
          clear hK K hk6 hf her hq9
          refine wpAnyH_ready (rs := [1, 5]) (by kernel_rfl) (by simp) (AllReadyH.cons (o := { dst := some 52, op := _, type := _, pos := _, after := _, guard := none }) rfl (fun K hK => ?_) (AllReadyH.cons (o := { dst := some 56, op := _, type := _, pos := _, after := _, guard := none }) rfl (fun K hK => ?_) AllReadyH.nil))
          ·
            have q0 := KK.out.2.2.1.c 2 rfl
            have q9 := KK.out.2.2.1.1
            go_simp
            refine hK.out _ _ trivial (fun hHeld => ?_)
            clear hK K q0 q9
            refine wpAnyH_ready (rs := [5]) (by kernel_rfl) (by simp) (AllReadyH.cons (o := { dst := some 56, op := _, type := _, pos := _, after := _, guard := none }) rfl (fun K hK => ?_) AllReadyH.nil)
            have hwB := KK.out.2.2.1.1
            go_simp
            refine hK.out _ _ trivial (fun hHeld => ?_)
            obtain ⟨BR, hBR⟩ : ∃ BR, BR = v6.heap.size := ⟨_, rfl⟩
            have BN : Hid (BS v6 [(v6.heap.size, [.int .i64 k9, .string u9, .slice sq9 sn9 sc9, .int .i64 a9])] (v6.alloc (.cells #[.int .i64 k9, .string u9, .slice sq9 sn9 sc9, .int .i64 a9] 30))) := (BS.start v6).new [.int .i64 k9, .string u9, .slice sq9 sn9 sc9, .int .i64 a9] 30 rfl
            have KN : Hid ((Kp g w (v6.alloc (.cells #[.int .i64 k9, .string u9, .slice sq9 sn9 sc9, .int .i64 a9] 30)) ∧ Bx (v6.alloc (.cells #[.int .i64 k9, .string u9, .slice sq9 sn9 sc9, .int .i64 a9] 30)) w.heap.size [.int .i64 0, .string ⟨#[]⟩, .slice none 0 0, .int .i64 0] ∧ Bx (v6.alloc (.cells #[.int .i64 k9, .string u9, .slice sq9 sn9 sc9, .int .i64 a9] 30)) B [.int .i64 7, .string ⟨#[]⟩, .slice none 0 0, .int .i64 r.2.2] ∧ RF g b (B + 1) (v6.alloc (.cells #[.int .i64 k9, .string u9, .slice sq9 sn9 sc9, .int .i64 a9] 30)) ea er) ∧ Bx (v6.alloc (.cells #[.int .i64 k9, .string u9, .slice sq9 sn9 sc9, .int .i64 a9] 30)) BR [.int .i64 k9, .string u9, .slice sq9 sn9 sc9, .int .i64 a9]) := ⟨⟨KK.out.1.alloc _, KK.out.2.1.alloc _, KK.out.2.2.1.alloc _, KK.out.2.2.2.below BN.out.1⟩, by rw [hBR]; exact BN.out.first⟩
            refine gen_anyR (fun V' => (Kp g w V' ∧ Bx V' w.heap.size [.int .i64 0, .string ⟨#[]⟩, .slice none 0 0, .int .i64 0] ∧ Bx V' B [.int .i64 7, .string ⟨#[]⟩, .slice none 0 0, .int .i64 r.2.2] ∧ RF g b (B + 1) V' ea er) ∧ Bx V' BR [.int .i64 k9, .string u9, .slice sq9 sn9 sc9, .int .i64 a9]) KN.out ?_
            have hBR1 : B < BR := by omega
            rw [← hBR]
            clear hHeld hK K KN BN hBR hwB KK
            rintro v8 ⟨kk1, kk2⟩
            have KK : Hid (Kp g w v8 ∧ Bx v8 w.heap.size [.int .i64 0, .string ⟨#[]⟩, .slice none 0 0, .int .i64 0] ∧ Bx v8 B [.int .i64 7, .string ⟨#[]⟩, .slice none 0 0, .int .i64 r.2.2] ∧ RF g b (B + 1) v8 ea er) := kk1
            have HRW : Hid (Bx v8 BR [.int .i64 k9, .string u9, .slice sq9 sn9 sc9, .int .i64 a9]) := kk2
            clear kk1 kk2
            have hHeld : True := trivial
            refine wpAnyH_ready (rs := [6]) (by kernel_rfl) (by simp) (AllReadyH.cons (o := { dst := some 57, op := _, type := _, pos := _, after := _, guard := none }) rfl (fun K hK => ?_) AllReadyH.nil)
            refine (if_pos (by kernel_rfl)).mpr (wp_append_new _ _ 28 rfl v8.heap.size 30 i0 (.agg #[.int .i64 0, .string ByteArray.empty, .slice none 0 0, .int .i64 0]) 4 56 Tryd.underlying28 hi0 iz0 iz1 iz2 rfl (by decide) (.slice none 0 0) 0 [] rfl (World.ownsRow_nil _ _ _ _) ⟨BR, 0, none⟩ 1 [.int .i64 k9, .string u9, .slice sq9 sn9 sc9, .int .i64 a9] rfl rfl (fun j u hj => by rw [show (⟨BR, 0, none⟩ : Addr).add j = ⟨BR, j, none⟩ from by rw [Addr.add_lit]; simp]; exact (HRW.out.2 j u hj).1) (by intro u hu; simp at hu; rcases hu with rfl | rfl | rfl | rfl <;> rfl) (by unfold maxLen; omega) (by omega) (Nat.le_refl _) ?_)
            intro v' w4 hown' hgrow hnew
            obtain ⟨sq', sn', sc', hv'⟩ := own_form hown'
            subst hv'
            have hgb : Below _ _ w4 := grown_below hgrow
            have HO : Hid (w4.ownsRow v8.heap.size 30 4 (.slice sq' sn' sc') 1 [.int .i64 k9, .string u9, .slice sq9 sn9 sc9, .int .i64 a9]) := hown'
            have hBV : B < v8.heap.size := KK.out.2.2.1.1
            have K4 : Hid (Kp g w w4 ∧ Bx w4 w.heap.size [.int .i64 0, .string ⟨#[]⟩, .slice none 0 0, .int .i64 0] ∧ Bx w4 B [.int .i64 7, .string ⟨#[]⟩, .slice none 0 0, .int .i64 r.2.2] ∧ RF g b (B + 1) w4 ea er) := ⟨KK.out.1.trans (Kp.of hgb), KK.out.2.1.below hgb, KK.out.2.2.1.below hgb, KK.out.2.2.2.below hgb⟩
            refine hK.out _ _ trivial (fun hHeld => ?_)
            clear hK K hown' hgrow hnew hgb KK HRW
            refine wpAnyH_take (i := 7) (v := ?_) (oi := { dst := some 58, op := _, type := _, pos := _, after := _, guard := none }) rfl (by kernel_rfl) (by kernel_rfl) (by kernel_rfl) (fun _ _ _ h => h) (Or.inl ⟨by kernel_rfl, ?_⟩) (by assumption) ?_
            case refine_2 => (intro w9 hSw; clear hSw; go_simp; try with_reducible rfl)
            simp only [Act.put, List.setIfInBounds_toArray, List.set_cons_zero, List.set_cons_succ]
            refine wpAnyH_ready (rs := [8]) (by kernel_rfl) (by simp) (AllReadyH.cons (o := { dst := none, op := _, type := _, pos := _, after := _, guard := none }) rfl (fun K hK => ?_) AllReadyH.nil)
            have hoff : ∀ c, c < w4.heap.size → c ≠ B → (w4.setCell ⟨B, 2, none⟩ (.slice sq' sn' sc')).heap[c]? = w4.heap[c]? := fun c _ hc => Below.heap_setCell _ _ _ _ hc
            have K7 : Hid (Kp g w (w4.setCell ⟨B, 2, none⟩ (.slice sq' sn' sc')) ∧ Bx (w4.setCell ⟨B, 2, none⟩ (.slice sq' sn' sc')) w.heap.size [.int .i64 0, .string ⟨#[]⟩, .slice none 0 0, .int .i64 0] ∧ Bx (w4.setCell ⟨B, 2, none⟩ (.slice sq' sn' sc')) B [.int .i64 7, .string ⟨#[]⟩, .slice sq' sn' sc', .int .i64 r.2.2] ∧ RF g b (B + 1) (w4.setCell ⟨B, 2, none⟩ (.slice sq' sn' sc')) ea er) := ⟨K4.out.1.set (p := ⟨B, 2, none⟩) (.inr (by show _ ≤ B; omega)) _, K4.out.2.1.setOther (by omega) [_] 2, K4.out.2.2.1.set1 2 _ (by simp), K4.out.2.2.2.off (r := B) hoff (by simp) (by omega) (by omega) (by omega)⟩
            have z2 := K4.out.2.2.1.f 2 rfl
            have c2 := K4.out.2.2.1.c 2 rfl
            have hB4 := K4.out.2.2.1.1
            go_simp
            refine hK.out _ _ trivial (fun hHeld => ?_)
            refine gen_anyR (fun V => Kp g w V ∧ Bx V w.heap.size [.int .i64 0, .string ⟨#[]⟩, .slice none 0 0, .int .i64 0] ∧ Bx V B [.int .i64 7, .string ⟨#[]⟩, .slice sq' sn' sc', .int .i64 r.2.2] ∧ RF g b (B + 1) V ea er) K7.out ?_
            clear hK K z2 c2 hB4 K7 K4 HO hoff hHeld
            intro v10 hv7
            have KK : Hid (Kp g w v10 ∧ Bx v10 w.heap.size [.int .i64 0, .string ⟨#[]⟩, .slice none 0 0, .int .i64 0] ∧ Bx v10 B [.int .i64 7, .string ⟨#[]⟩, .slice sq' sn' sc', .int .i64 r.2.2] ∧ RF g b (B + 1) v10 ea er) := hv7
            clear hv7
            have hHeld : True := trivial
            refine wpAnyH_done (by kernel_rfl) ?_ _
            obtain ⟨c9, o9, n9, m9, D9, i9, z9, t9, hc9, hb9, -⟩ := KK.out.2.2.2
            have cg1 := hb9.c 1 rfl
            have fg1 := hb9.f 1 rfl
            have hgl := hb9.1
            clear hb9 hc9
            go_upto_region 17 with fail
            refine gen_to (fun V => Kp g w V ∧ Bx V w.heap.size [.int .i64 0, .string ⟨#[]⟩, .slice none 0 0, .int .i64 0] ∧ RF g b (B + 1) V ea er ∧ Bx V B [.int .i64 7, .string ⟨#[]⟩, .slice sq' sn' sc', .int .i64 r.2.2]) (rdeep_bad hg KK.out.1 KK.out.2.1 (by omega) KK.out.2.2.2 KK.out.2.2.1 hBg) ?_
            rintro W8 ⟨k8, h8, f8, t8⟩
            have HK5 : Hid (Kp g w W8) := k8
            have HH5 : Hid (Bx W8 w.heap.size [.int .i64 0, .string ⟨#[]⟩, .slice none 0 0, .int .i64 0]) := h8
            have HF5 : Hid (RF g b (B + 1) W8 ea er) := f8
            have l0' := t8.c 0 rfl
            have l1' := t8.c 1 rfl
            have l2' := t8.c 2 rfl
            have l3' := t8.c 3 rfl
            have hl' := t8.1
            clear k8 h8 f8 t8 cg1 fg1 hgl KK hHeld
            obtain ⟨FK, FB, FO, FS⟩ := fin4 [] (.int .i64 7) (.string ⟨#[]⟩) (.slice sq' sn' sc') (.int .i64 r.2.2) HK5.out (Nat.le_refl _) (HH5.out)
            have y0' := FB.c 0 rfl
            have y1' := FB.c 1 rfl
            have y2' := FB.c 2 rfl
            have y3' := FB.c 3 rfl
            simp only [List.foldl, World.setCells, Nat.zero_add, Nat.reduceAdd] at y0' y1' y2' y3'
            have HFK : Hid _ := FK
            have HFO : Hid _ := FO
            have HFS : Hid _ := FS
            clear FK FB FO FS
            have rr0 := (HH5.out).c 0 rfl
            have rr1 := (HH5.out).c 1 rfl
            have rr2 := (HH5.out).c 2 rfl
            have rr3 := (HH5.out).c 3 rfl
            have rf0 := (HH5.out).f 0 rfl
            have rf1 := (HH5.out).f 1 rfl
            have rf2 := (HH5.out).f 2 rfl
            have rf3 := (HH5.out).f 3 rfl
            have hrw' := (HH5.out).1
            go_wp2
            refine bodyPost_ret (v := .agg #[.int .i64 7, .string ⟨#[]⟩, .slice sq' sn' sc', .int .i64 r.2.2]) (by simp [results, Tryd.results18, go_sem, y0', y1', y2', y3']) rfl ⟨HFK.out, by rw [HR9.out]; exact ⟨HER.out, (HF5.out.off HFO.out HFS.out (by omega) (by omega) (by omega)).mono (by omega), _, _, _, _, _, _, rfl⟩⟩
          ·
            have hwB := KK.out.2.2.1.1
            go_simp
            refine hK.out _ _ trivial (fun hHeld => ?_)
            obtain ⟨BR, hBR⟩ : ∃ BR, BR = v6.heap.size := ⟨_, rfl⟩
            have BN : Hid (BS v6 [(v6.heap.size, [.int .i64 k9, .string u9, .slice sq9 sn9 sc9, .int .i64 a9])] (v6.alloc (.cells #[.int .i64 k9, .string u9, .slice sq9 sn9 sc9, .int .i64 a9] 30))) := (BS.start v6).new [.int .i64 k9, .string u9, .slice sq9 sn9 sc9, .int .i64 a9] 30 rfl
            have KN : Hid ((Kp g w (v6.alloc (.cells #[.int .i64 k9, .string u9, .slice sq9 sn9 sc9, .int .i64 a9] 30)) ∧ Bx (v6.alloc (.cells #[.int .i64 k9, .string u9, .slice sq9 sn9 sc9, .int .i64 a9] 30)) w.heap.size [.int .i64 0, .string ⟨#[]⟩, .slice none 0 0, .int .i64 0] ∧ Bx (v6.alloc (.cells #[.int .i64 k9, .string u9, .slice sq9 sn9 sc9, .int .i64 a9] 30)) B [.int .i64 7, .string ⟨#[]⟩, .slice none 0 0, .int .i64 r.2.2] ∧ RF g b (B + 1) (v6.alloc (.cells #[.int .i64 k9, .string u9, .slice sq9 sn9 sc9, .int .i64 a9] 30)) ea er) ∧ Bx (v6.alloc (.cells #[.int .i64 k9, .string u9, .slice sq9 sn9 sc9, .int .i64 a9] 30)) BR [.int .i64 k9, .string u9, .slice sq9 sn9 sc9, .int .i64 a9]) := ⟨⟨KK.out.1.alloc _, KK.out.2.1.alloc _, KK.out.2.2.1.alloc _, KK.out.2.2.2.below BN.out.1⟩, by rw [hBR]; exact BN.out.first⟩
            refine gen_anyR (fun V' => (Kp g w V' ∧ Bx V' w.heap.size [.int .i64 0, .string ⟨#[]⟩, .slice none 0 0, .int .i64 0] ∧ Bx V' B [.int .i64 7, .string ⟨#[]⟩, .slice none 0 0, .int .i64 r.2.2] ∧ RF g b (B + 1) V' ea er) ∧ Bx V' BR [.int .i64 k9, .string u9, .slice sq9 sn9 sc9, .int .i64 a9]) KN.out ?_
            have hBR1 : B < BR := by omega
            rw [← hBR]
            clear hHeld hK K KN BN hBR hwB KK
            rintro v11 ⟨kk1, kk2⟩
            have KK : Hid (Kp g w v11 ∧ Bx v11 w.heap.size [.int .i64 0, .string ⟨#[]⟩, .slice none 0 0, .int .i64 0] ∧ Bx v11 B [.int .i64 7, .string ⟨#[]⟩, .slice none 0 0, .int .i64 r.2.2] ∧ RF g b (B + 1) v11 ea er) := kk1
            have HRW : Hid (Bx v11 BR [.int .i64 k9, .string u9, .slice sq9 sn9 sc9, .int .i64 a9]) := kk2
            clear kk1 kk2
            have hHeld : True := trivial
            refine wpAnyH_ready (rs := [1]) (by kernel_rfl) (by simp) (AllReadyH.cons (o := { dst := some 52, op := _, type := _, pos := _, after := _, guard := none }) rfl (fun K hK => ?_) AllReadyH.nil)
            have q0 := KK.out.2.2.1.c 2 rfl
            have q9 := KK.out.2.2.1.1
            go_simp
            refine hK.out _ _ trivial (fun hHeld => ?_)
            clear hK K q0 q9
            refine wpAnyH_ready (rs := [6]) (by kernel_rfl) (by simp) (AllReadyH.cons (o := { dst := some 57, op := _, type := _, pos := _, after := _, guard := none }) rfl (fun K hK => ?_) AllReadyH.nil)
            refine (if_pos (by kernel_rfl)).mpr (wp_append_new _ _ 28 rfl v11.heap.size 30 i0 (.agg #[.int .i64 0, .string ByteArray.empty, .slice none 0 0, .int .i64 0]) 4 56 Tryd.underlying28 hi0 iz0 iz1 iz2 rfl (by decide) (.slice none 0 0) 0 [] rfl (World.ownsRow_nil _ _ _ _) ⟨BR, 0, none⟩ 1 [.int .i64 k9, .string u9, .slice sq9 sn9 sc9, .int .i64 a9] rfl rfl (fun j u hj => by rw [show (⟨BR, 0, none⟩ : Addr).add j = ⟨BR, j, none⟩ from by rw [Addr.add_lit]; simp]; exact (HRW.out.2 j u hj).1) (by intro u hu; simp at hu; rcases hu with rfl | rfl | rfl | rfl <;> rfl) (by unfold maxLen; omega) (by omega) (Nat.le_refl _) ?_)
            intro v' w4 hown' hgrow hnew
            obtain ⟨sq', sn', sc', hv'⟩ := own_form hown'
            subst hv'
            have hgb : Below _ _ w4 := grown_below hgrow
            have HO : Hid (w4.ownsRow v11.heap.size 30 4 (.slice sq' sn' sc') 1 [.int .i64 k9, .string u9, .slice sq9 sn9 sc9, .int .i64 a9]) := hown'
            have hBV : B < v11.heap.size := KK.out.2.2.1.1
            have K4 : Hid (Kp g w w4 ∧ Bx w4 w.heap.size [.int .i64 0, .string ⟨#[]⟩, .slice none 0 0, .int .i64 0] ∧ Bx w4 B [.int .i64 7, .string ⟨#[]⟩, .slice none 0 0, .int .i64 r.2.2] ∧ RF g b (B + 1) w4 ea er) := ⟨KK.out.1.trans (Kp.of hgb), KK.out.2.1.below hgb, KK.out.2.2.1.below hgb, KK.out.2.2.2.below hgb⟩
            refine hK.out _ _ trivial (fun hHeld => ?_)
            clear hK K hown' hgrow hnew hgb KK HRW
            refine wpAnyH_take (i := 7) (v := ?_) (oi := { dst := some 58, op := _, type := _, pos := _, after := _, guard := none }) rfl (by kernel_rfl) (by kernel_rfl) (by kernel_rfl) (fun _ _ _ h => h) (Or.inl ⟨by kernel_rfl, ?_⟩) (by assumption) ?_
            case refine_2 => (intro w9 hSw; clear hSw; go_simp; try with_reducible rfl)
            simp only [Act.put, List.setIfInBounds_toArray, List.set_cons_zero, List.set_cons_succ]
            refine wpAnyH_ready (rs := [8]) (by kernel_rfl) (by simp) (AllReadyH.cons (o := { dst := none, op := _, type := _, pos := _, after := _, guard := none }) rfl (fun K hK => ?_) AllReadyH.nil)
            have hoff : ∀ c, c < w4.heap.size → c ≠ B → (w4.setCell ⟨B, 2, none⟩ (.slice sq' sn' sc')).heap[c]? = w4.heap[c]? := fun c _ hc => Below.heap_setCell _ _ _ _ hc
            have K7 : Hid (Kp g w (w4.setCell ⟨B, 2, none⟩ (.slice sq' sn' sc')) ∧ Bx (w4.setCell ⟨B, 2, none⟩ (.slice sq' sn' sc')) w.heap.size [.int .i64 0, .string ⟨#[]⟩, .slice none 0 0, .int .i64 0] ∧ Bx (w4.setCell ⟨B, 2, none⟩ (.slice sq' sn' sc')) B [.int .i64 7, .string ⟨#[]⟩, .slice sq' sn' sc', .int .i64 r.2.2] ∧ RF g b (B + 1) (w4.setCell ⟨B, 2, none⟩ (.slice sq' sn' sc')) ea er) := ⟨K4.out.1.set (p := ⟨B, 2, none⟩) (.inr (by show _ ≤ B; omega)) _, K4.out.2.1.setOther (by omega) [_] 2, K4.out.2.2.1.set1 2 _ (by simp), K4.out.2.2.2.off (r := B) hoff (by simp) (by omega) (by omega) (by omega)⟩
            have z2 := K4.out.2.2.1.f 2 rfl
            have c2 := K4.out.2.2.1.c 2 rfl
            have hB4 := K4.out.2.2.1.1
            go_simp
            refine hK.out _ _ trivial (fun hHeld => ?_)
            refine gen_anyR (fun V => Kp g w V ∧ Bx V w.heap.size [.int .i64 0, .string ⟨#[]⟩, .slice none 0 0, .int .i64 0] ∧ Bx V B [.int .i64 7, .string ⟨#[]⟩, .slice sq' sn' sc', .int .i64 r.2.2] ∧ RF g b (B + 1) V ea er) K7.out ?_
            clear hK K z2 c2 hB4 K7 K4 HO hoff hHeld
            intro v14 hv7
            have KK : Hid (Kp g w v14 ∧ Bx v14 w.heap.size [.int .i64 0, .string ⟨#[]⟩, .slice none 0 0, .int .i64 0] ∧ Bx v14 B [.int .i64 7, .string ⟨#[]⟩, .slice sq' sn' sc', .int .i64 r.2.2] ∧ RF g b (B + 1) v14 ea er) := hv7
            clear hv7
            have hHeld : True := trivial
            refine wpAnyH_done (by kernel_rfl) ?_ _
            obtain ⟨c9, o9, n9, m9, D9, i9, z9, t9, hc9, hb9, -⟩ := KK.out.2.2.2
            have cg1 := hb9.c 1 rfl
            have fg1 := hb9.f 1 rfl
            have hgl := hb9.1
            clear hb9 hc9
            go_upto_region 17 with fail
            refine gen_to (fun V => Kp g w V ∧ Bx V w.heap.size [.int .i64 0, .string ⟨#[]⟩, .slice none 0 0, .int .i64 0] ∧ RF g b (B + 1) V ea er ∧ Bx V B [.int .i64 7, .string ⟨#[]⟩, .slice sq' sn' sc', .int .i64 r.2.2]) (rdeep_bad hg KK.out.1 KK.out.2.1 (by omega) KK.out.2.2.2 KK.out.2.2.1 hBg) ?_
            rintro W8 ⟨k8, h8, f8, t8⟩
            have HK5 : Hid (Kp g w W8) := k8
            have HH5 : Hid (Bx W8 w.heap.size [.int .i64 0, .string ⟨#[]⟩, .slice none 0 0, .int .i64 0]) := h8
            have HF5 : Hid (RF g b (B + 1) W8 ea er) := f8
            have l0' := t8.c 0 rfl
            have l1' := t8.c 1 rfl
            have l2' := t8.c 2 rfl
            have l3' := t8.c 3 rfl
            have hl' := t8.1
            clear k8 h8 f8 t8 cg1 fg1 hgl KK hHeld
            obtain ⟨FK, FB, FO, FS⟩ := fin4 [] (.int .i64 7) (.string ⟨#[]⟩) (.slice sq' sn' sc') (.int .i64 r.2.2) HK5.out (Nat.le_refl _) (HH5.out)
            have y0' := FB.c 0 rfl
            have y1' := FB.c 1 rfl
            have y2' := FB.c 2 rfl
            have y3' := FB.c 3 rfl
            simp only [List.foldl, World.setCells, Nat.zero_add, Nat.reduceAdd] at y0' y1' y2' y3'
            have HFK : Hid _ := FK
            have HFO : Hid _ := FO
            have HFS : Hid _ := FS
            clear FK FB FO FS
            have rr0 := (HH5.out).c 0 rfl
            have rr1 := (HH5.out).c 1 rfl
            have rr2 := (HH5.out).c 2 rfl
            have rr3 := (HH5.out).c 3 rfl
            have rf0 := (HH5.out).f 0 rfl
            have rf1 := (HH5.out).f 1 rfl
            have rf2 := (HH5.out).f 2 rfl
            have rf3 := (HH5.out).f 3 rfl
            have hrw' := (HH5.out).1
            go_wp2
            refine bodyPost_ret (v := .agg #[.int .i64 7, .string ⟨#[]⟩, .slice sq' sn' sc', .int .i64 r.2.2]) (by simp [results, Tryd.results18, go_sem, y0', y1', y2', y3']) rfl ⟨HFK.out, by rw [HR9.out]; exact ⟨HER.out, (HF5.out.off HFO.out HFS.out (by omega) (by omega) (by omega)).mono (by omega), _, _, _, _, _, _, rfl⟩⟩
      | ok n l1 =>
        rw [hr] at HCC
        have HR9 : Hid (R = .ok (.mk 7 ByteArray.empty [n] r.2.2) l1) := by have := HR8.out; rw [hr] at this; exact this.symm
        clear hr HR8
        refine wp_region_held_drew (S := fun _ => True) (by kernel_rfl) trivial (fun hHeld => ?_)
        refine gen_anyR (fun V => Kp g w V ∧ Bx V w.heap.size [.int .i64 0, .string ⟨#[]⟩, .slice none 0 0, .int .i64 0] ∧ Bx V B [.int .i64 7, .string ⟨#[]⟩, .slice none 0 0, .int .i64 r.2.2] ∧ RS g b cap T V (q :: l0) (d + 1)) ⟨KK.out.1.drew, KK.out.2.1, KK.out.2.2.1, KK.out.2.2.2.drew⟩ ?_
        clear hHeld KK
        intro W6 hW6
        have KK : Hid (Kp g w W6 ∧ Bx W6 w.heap.size [.int .i64 0, .string ⟨#[]⟩, .slice none 0 0, .int .i64 0] ∧ Bx W6 B [.int .i64 7, .string ⟨#[]⟩, .slice none 0 0, .int .i64 r.2.2] ∧ RS g b cap T W6 (q :: l0) (d + 1)) := hW6
        clear hW6
        have hHeld : True := trivial
        refine wpAnyH_take (i := 0) (v := ?_) (oi := { dst := some 51, op := _, type := _, pos := _, after := _, guard := none }) rfl (by kernel_rfl) (by kernel_rfl) (by kernel_rfl) (fun _ _ _ h => h) (Or.inl ⟨by kernel_rfl, ?_⟩) (by assumption) ?_
        case refine_2 => (intro w9 hSw; clear hSw; go_simp; try with_reducible rfl)
        simp only [Act.put, List.setIfInBounds_toArray, List.set_cons_zero, List.set_cons_succ]
        refine wpAnyH_take (i := 2) (v := ?_) (oi := { dst := some 53, op := _, type := _, pos := _, after := _, guard := none }) rfl (by kernel_rfl) (by kernel_rfl) (by kernel_rfl) (fun _ _ _ h => h) (Or.inl ⟨by kernel_rfl, ?_⟩) (by assumption) ?_
        case refine_2 => (intro w9 hSw; clear hSw; go_simp; try with_reducible rfl)
        simp only [Act.put, List.setIfInBounds_toArray, List.set_cons_zero, List.set_cons_succ]
        refine wpAnyH_take (i := 3) (v := ?_) (oi := { dst := some 54, op := _, type := _, pos := _, after := _, guard := none }) rfl (by kernel_rfl) (by kernel_rfl) (by kernel_rfl) (fun _ _ _ h => h) (Or.inl ⟨by kernel_rfl, ?_⟩) (by assumption) ?_
        case refine_2 => (intro w9 hSw; clear hSw; go_simp; try with_reducible rfl)
        simp only [Act.put, List.setIfInBounds_toArray, List.set_cons_zero, List.set_cons_succ]
        refine wpAnyH_ready (rs := [1, 4]) (by kernel_rfl) (by simp) (AllReadyH.cons (o := { dst := some 52, op := _, type := _, pos := _, after := _, guard := none }) rfl (fun K hK => ?_) (AllReadyH.cons (o := { dst := some 55, op := _, type := _, pos := _, after := _, guard := none }) rfl (fun K hK => ?_) AllReadyH.nil))
        ·
          have q0 := KK.out.2.2.1.c 2 rfl
          have q9 := KK.out.2.2.1.1
          go_simp
          refine hK.out _ _ trivial (fun hHeld => ?_)
          clear hK K q0 q9
          refine wpAnyH_ready (rs := [4]) (by kernel_rfl) (by simp) (AllReadyH.cons (o := { dst := some 55, op := _, type := _, pos := _, after := _, guard := none }) rfl (fun K hK => ?_) AllReadyH.nil)
          go_simp
          refine (HCC.out _ KK.out.2.2.2).mono ?_
          have hq9 := KK.out.2.2.1.1
          rintro e v2 ⟨hk2, L1, hl2, hrs, hend, k9, u9, sq9, sn9, sc9, a9, rfl, hnd⟩
          refine hK.out _ _ trivial (fun hHeld => ?_)
          subst hl2
          replace KK : Hid (Kp g w v2 ∧ Bx v2 w.heap.size [.int .i64 0, .string ⟨#[]⟩, .slice none 0 0, .int .i64 0] ∧ Bx v2 B [.int .i64 7, .string ⟨#[]⟩, .slice none 0 0, .int .i64 r.2.2] ∧ RS g b cap T v2 L1 (d + 1) ∧ EndL (mL L1) ∧ NdAt (fun c => B < c) v2 n [.int .i64 k9, .string u9, .slice sq9 sn9 sc9, .int .i64 a9]) := ⟨KK.out.1.trans hk2, hk2.bx KK.out.2.1 (by omega), hk2.bx KK.out.2.2.1 hBg, hrs, hend, NdAt.keep (Nat.le_refl _) (fun c hc _ => ⟨by omega, rfl⟩) _ _ hnd⟩
          clear hK K hk2 hrs hend hnd hq9
          refine wpAnyH_ready (rs := [5]) (by kernel_rfl) (by simp) (AllReadyH.cons (o := { dst := some 56, op := _, type := _, pos := _, after := _, guard := none }) rfl (fun K hK => ?_) AllReadyH.nil)
          have hwB := KK.out.2.2.1.1
          go_simp
          refine hK.out _ _ trivial (fun hHeld => ?_)
          obtain ⟨BR, hBR⟩ : ∃ BR, BR = v2.heap.size := ⟨_, rfl⟩
          have BN : Hid (BS v2 [(v2.heap.size, [.int .i64 k9, .string u9, .slice sq9 sn9 sc9, .int .i64 a9])] (v2.alloc (.cells #[.int .i64 k9, .string u9, .slice sq9 sn9 sc9, .int .i64 a9] 30))) := (BS.start v2).new [.int .i64 k9, .string u9, .slice sq9 sn9 sc9, .int .i64 a9] 30 rfl
          have KN : Hid ((Kp g w (v2.alloc (.cells #[.int .i64 k9, .string u9, .slice sq9 sn9 sc9, .int .i64 a9] 30)) ∧ Bx (v2.alloc (.cells #[.int .i64 k9, .string u9, .slice sq9 sn9 sc9, .int .i64 a9] 30)) w.heap.size [.int .i64 0, .string ⟨#[]⟩, .slice none 0 0, .int .i64 0] ∧ Bx (v2.alloc (.cells #[.int .i64 k9, .string u9, .slice sq9 sn9 sc9, .int .i64 a9] 30)) B [.int .i64 7, .string ⟨#[]⟩, .slice none 0 0, .int .i64 r.2.2] ∧ RS g b cap T (v2.alloc (.cells #[.int .i64 k9, .string u9, .slice sq9 sn9 sc9, .int .i64 a9] 30)) L1 (d + 1) ∧ EndL (mL L1) ∧ NdAt (fun c => B < c) (v2.alloc (.cells #[.int .i64 k9, .string u9, .slice sq9 sn9 sc9, .int .i64 a9] 30)) n [.int .i64 k9, .string u9, .slice sq9 sn9 sc9, .int .i64 a9]) ∧ Bx (v2.alloc (.cells #[.int .i64 k9, .string u9, .slice sq9 sn9 sc9, .int .i64 a9] 30)) BR [.int .i64 k9, .string u9, .slice sq9 sn9 sc9, .int .i64 a9]) := ⟨⟨KK.out.1.alloc _, KK.out.2.1.alloc _, KK.out.2.2.1.alloc _, KK.out.2.2.2.1.below BN.out.1, KK.out.2.2.2.2.1, KK.out.2.2.2.2.2.below BN.out.1⟩, by rw [hBR]; exact BN.out.first⟩
          refine gen_anyR (fun V' => (Kp g w V' ∧ Bx V' w.heap.size [.int .i64 0, .string ⟨#[]⟩, .slice none 0 0, .int .i64 0] ∧ Bx V' B [.int .i64 7, .string ⟨#[]⟩, .slice none 0 0, .int .i64 r.2.2] ∧ RS g b cap T V' L1 (d + 1) ∧ EndL (mL L1) ∧ NdAt (fun c => B < c) V' n [.int .i64 k9, .string u9, .slice sq9 sn9 sc9, .int .i64 a9]) ∧ Bx V' BR [.int .i64 k9, .string u9, .slice sq9 sn9 sc9, .int .i64 a9]) KN.out ?_
          have hBR1 : B < BR := by omega
          rw [← hBR]
          clear hHeld hK K KN BN hBR hwB KK
          rintro v3 ⟨kk1, kk2⟩
          have KK : Hid (Kp g w v3 ∧ Bx v3 w.heap.size [.int .i64 0, .string ⟨#[]⟩, .slice none 0 0, .int .i64 0] ∧ Bx v3 B [.int .i64 7, .string ⟨#[]⟩, .slice none 0 0, .int .i64 r.2.2] ∧ RS g b cap T v3 L1 (d + 1) ∧ EndL (mL L1) ∧ NdAt (fun c => B < c) v3 n [.int .i64 k9, .string u9, .slice sq9 sn9 sc9, .int .i64 a9]) := kk1
          have HRW : Hid (Bx v3 BR [.int .i64 k9, .string u9, .slice sq9 sn9 sc9, .int .i64 a9]) := kk2
          clear kk1 kk2
          have hHeld : True := trivial
          refine wpAnyH_ready (rs := [6]) (by kernel_rfl) (by simp) (AllReadyH.cons (o := { dst := some 57, op := _, type := _, pos := _, after := _, guard := none }) rfl (fun K hK => ?_) AllReadyH.nil)
          refine (if_pos (by kernel_rfl)).mpr (wp_append_new _ _ 28 rfl v3.heap.size 30 i0 (.agg #[.int .i64 0, .string ByteArray.empty, .slice none 0 0, .int .i64 0]) 4 56 Tryd.underlying28 hi0 iz0 iz1 iz2 rfl (by decide) (.slice none 0 0) 0 [] rfl (World.ownsRow_nil _ _ _ _) ⟨BR, 0, none⟩ 1 [.int .i64 k9, .string u9, .slice sq9 sn9 sc9, .int .i64 a9] rfl rfl (fun j u hj => by rw [show (⟨BR, 0, none⟩ : Addr).add j = ⟨BR, j, none⟩ from by rw [Addr.add_lit]; simp]; exact (HRW.out.2 j u hj).1) (by intro u hu; simp at hu; rcases hu with rfl | rfl | rfl | rfl <;> rfl) (by unfold maxLen; omega) (by omega) (Nat.le_refl _) ?_)
          intro v' w4 hown' hgrow hnew
          obtain ⟨sq', sn', sc', hv'⟩ := own_form hown'
          subst hv'
          have hgb : Below _ _ w4 := grown_below hgrow
          have HO : Hid (w4.ownsRow v3.heap.size 30 4 (.slice sq' sn' sc') 1 [.int .i64 k9, .string u9, .slice sq9 sn9 sc9, .int .i64 a9]) := hown'
          have hBV : B < v3.heap.size := KK.out.2.2.1.1
          have K4 : Hid (Kp g w w4 ∧ Bx w4 w.heap.size [.int .i64 0, .string ⟨#[]⟩, .slice none 0 0, .int .i64 0] ∧ Bx w4 B [.int .i64 7, .string ⟨#[]⟩, .slice none 0 0, .int .i64 r.2.2] ∧ RS g b cap T w4 L1 (d + 1) ∧ EndL (mL L1) ∧ NdAt (fun c => B < c) w4 n [.int .i64 k9, .string u9, .slice sq9 sn9 sc9, .int .i64 a9]) := ⟨KK.out.1.trans (Kp.of hgb), KK.out.2.1.below hgb, KK.out.2.2.1.below hgb, KK.out.2.2.2.1.below hgb, KK.out.2.2.2.2.1, KK.out.2.2.2.2.2.below hgb⟩
          refine hK.out _ _ trivial (fun hHeld => ?_)
          clear hK K hown' hgrow hnew hgb KK HRW
          refine wpAnyH_take (i := 7) (v := ?_) (oi := { dst := some 58, op := _, type := _, pos := _, after := _, guard := none }) rfl (by kernel_rfl) (by kernel_rfl) (by kernel_rfl) (fun _ _ _ h => h) (Or.inl ⟨by kernel_rfl, ?_⟩) (by assumption) ?_
          case refine_2 => (intro w9 hSw; clear hSw; go_simp; try with_reducible rfl)
          simp only [Act.put, List.setIfInBounds_toArray, List.set_cons_zero, List.set_cons_succ]
          refine wpAnyH_ready (rs := [8]) (by kernel_rfl) (by simp) (AllReadyH.cons (o := { dst := none, op := _, type := _, pos := _, after := _, guard := none }) rfl (fun K hK => ?_) AllReadyH.nil)
          obtain ⟨R1, cp1, hv1, hc1, hc2, hR1, hR2, hRw⟩ := row_one HO.out K4.out.2.2.2.2.2
          obtain ⟨rfl, rfl, rfl⟩ : sq' = some ⟨R1, 0, none⟩ ∧ sn' = 1 ∧ sc' = cp1 := by cases hv1; exact ⟨rfl, rfl, rfl⟩
          have hn7 : NdAt (fun c => B < c) w4 (.mk 7 ByteArray.empty [n] r.2.2) [.int .i64 7, .string ⟨#[]⟩, .slice (some ⟨R1, 0, none⟩) 1 sc', .int .i64 r.2.2] := NdAt.row (ks := [n]) (by simp) hc1 hc2 (by omega) hR2 hRw
          have hoff : ∀ c, c < w4.heap.size → c ≠ B → (w4.setCell ⟨B, 2, none⟩ (.slice (some ⟨R1, 0, none⟩) 1 sc')).heap[c]? = w4.heap[c]? := fun c _ hc => Below.heap_setCell _ _ _ _ hc
          have K7 : Hid (Kp g w (w4.setCell ⟨B, 2, none⟩ (.slice (some ⟨R1, 0, none⟩) 1 sc')) ∧ Bx (w4.setCell ⟨B, 2, none⟩ (.slice (some ⟨R1, 0, none⟩) 1 sc')) w.heap.size [.int .i64 0, .string ⟨#[]⟩, .slice none 0 0, .int .i64 0] ∧ Bx (w4.setCell ⟨B, 2, none⟩ (.slice (some ⟨R1, 0, none⟩) 1 sc')) B [.int .i64 7, .string ⟨#[]⟩, .slice (some ⟨R1, 0, none⟩) 1 sc', .int .i64 r.2.2] ∧ RS g b cap T (w4.setCell ⟨B, 2, none⟩ (.slice (some ⟨R1, 0, none⟩) 1 sc')) L1 (d + 1) ∧ EndL (mL L1) ∧ NdAt (fun c => B < c) (w4.setCell ⟨B, 2, none⟩ (.slice (some ⟨R1, 0, none⟩) 1 sc')) (.mk 7 ByteArray.empty [n] r.2.2) [.int .i64 7, .string ⟨#[]⟩, .slice (some ⟨R1, 0, none⟩) 1 sc', .int .i64 r.2.2]) := ⟨K4.out.1.set (p := ⟨B, 2, none⟩) (.inr (by show _ ≤ B; omega)) _, K4.out.2.1.setOther (by omega) [_] 2, K4.out.2.2.1.set1 2 _ (by simp), K4.out.2.2.2.1.off (r := B) hoff (by simp) (by omega) (by omega), K4.out.2.2.2.2.1, hn7.off (r := B) hoff (by simp) (fun c hc => ⟨hc, by omega⟩)⟩
          have z2 := K4.out.2.2.1.f 2 rfl
          have c2 := K4.out.2.2.1.c 2 rfl
          have hB4 := K4.out.2.2.1.1
          go_simp
          refine hK.out _ _ trivial (fun hHeld => ?_)
          refine gen_anyR (fun V => Kp g w V ∧ Bx V w.heap.size [.int .i64 0, .string ⟨#[]⟩, .slice none 0 0, .int .i64 0] ∧ Bx V B [.int .i64 7, .string ⟨#[]⟩, .slice (some ⟨R1, 0, none⟩) 1 sc', .int .i64 r.2.2] ∧ RS g b cap T V L1 (d + 1) ∧ EndL (mL L1) ∧ NdAt (fun c => B < c) V (.mk 7 ByteArray.empty [n] r.2.2) [.int .i64 7, .string ⟨#[]⟩, .slice (some ⟨R1, 0, none⟩) 1 sc', .int .i64 r.2.2]) K7.out ?_
          clear hK K z2 c2 hB4 K7 K4 HO hoff hHeld hn7 hRw hv1
          intro v5 hv7
          have KK : Hid (Kp g w v5 ∧ Bx v5 w.heap.size [.int .i64 0, .string ⟨#[]⟩, .slice none 0 0, .int .i64 0] ∧ Bx v5 B [.int .i64 7, .string ⟨#[]⟩, .slice (some ⟨R1, 0, none⟩) 1 sc', .int .i64 r.2.2] ∧ RS g b cap T v5 L1 (d + 1) ∧ EndL (mL L1) ∧ NdAt (fun c => B < c) v5 (.mk 7 ByteArray.empty [n] r.2.2) [.int .i64 7, .string ⟨#[]⟩, .slice (some ⟨R1, 0, none⟩) 1 sc', .int .i64 r.2.2]) := hv7
          clear hv7
          have hHeld : True := trivial
          refine wpAnyH_done (by kernel_rfl) ?_ _
          obtain ⟨⟨pre4, pa4, he4, hb4⟩, -⟩ := KK.out.2.2.2.1
          have cg1 := hb4.c 1 rfl
          have fg1 := hb4.f 1 rfl
          have hgl := hb4.1
          clear hb4 he4
          have hdw : IntKind.i64.wrap ((d : Int) + 1 - 1) = (d : Int) := by rw [IntKind.wrap_i64]; omega
          have hdw2 : IntKind.i64.wrap (d : Int) = (d : Int) := by rw [IntKind.wrap_i64]; omega
          go_upto_region 17 with fail
          refine gen_to (fun V => Kp g w V ∧ Bx V w.heap.size [.int .i64 0, .string ⟨#[]⟩, .slice none 0 0, .int .i64 0] ∧ RS g b cap T V L1 d ∧ Bx V B [.int .i64 7, .string ⟨#[]⟩, .slice (some ⟨R1, 0, none⟩) 1 sc', .int .i64 r.2.2] ∧ NdAt (fun c => B < c) V (.mk 7 ByteArray.empty [n] r.2.2) [.int .i64 7, .string ⟨#[]⟩, .slice (some ⟨R1, 0, none⟩) 1 sc', .int .i64 r.2.2]) (rdeep_ok hg KK.out.1 KK.out.2.1 (by omega) KK.out.2.2.2.1 KK.out.2.2.1 hBg KK.out.2.2.2.2.2 (fun c hc => by omega)) ?_
          have HE5 : Hid (EndL (mL L1)) := KK.out.2.2.2.2.1
          rintro W8 ⟨k8, h8, s8, t8, n8⟩
          have HK5 : Hid (Kp g w W8) := k8
          have HH5 : Hid (Bx W8 w.heap.size [.int .i64 0, .string ⟨#[]⟩, .slice none 0 0, .int .i64 0]) := h8
          have HS5 : Hid (RS g b cap T W8 L1 d) := s8
          have HN5 : Hid (NdAt (fun c => B < c) W8 (.mk 7 ByteArray.empty [n] r.2.2) [.int .i64 7, .string ⟨#[]⟩, .slice (some ⟨R1, 0, none⟩) 1 sc', .int .i64 r.2.2]) := n8
          have l0' := t8.c 0 rfl
          have l1' := t8.c 1 rfl
          have l2' := t8.c 2 rfl
          have l3' := t8.c 3 rfl
          have hl' := t8.1
          clear k8 h8 s8 t8 n8 cg1 fg1 hgl KK hHeld
          obtain ⟨FK, FB, FO, FS⟩ := fin4 [] (.int .i64 7) (.string ⟨#[]⟩) (.slice (some ⟨R1, 0, none⟩) 1 sc') (.int .i64 r.2.2) HK5.out (Nat.le_refl _) (HH5.out)
          have y0' := FB.c 0 rfl
          have y1' := FB.c 1 rfl
          have y2' := FB.c 2 rfl
          have y3' := FB.c 3 rfl
          simp only [List.foldl, World.setCells, Nat.zero_add, Nat.reduceAdd] at y0' y1' y2' y3'
          have HFK : Hid _ := FK
          have HFO : Hid _ := FO
          have HFS : Hid _ := FS
          clear FK FB FO FS
          have rr0 := (HH5.out).c 0 rfl
          have rr1 := (HH5.out).c 1 rfl
          have rr2 := (HH5.out).c 2 rfl
          have rr3 := (HH5.out).c 3 rfl
          have rf0 := (HH5.out).f 0 rfl
          have rf1 := (HH5.out).f 1 rfl
          have rf2 := (HH5.out).f 2 rfl
          have rf3 := (HH5.out).f 3 rfl
          have hrw' := (HH5.out).1
          go_wp2
          refine bodyPost_ret (v := .agg #[.int .i64 7, .string ⟨#[]⟩, .slice (some ⟨R1, 0, none⟩) 1 sc', .int .i64 r.2.2]) (by simp [results, Tryd.results18, go_sem, y0', y1', y2', y3']) rfl ⟨HFK.out, by rw [HR9.out]; exact ⟨L1, rfl, HS5.out.off HFO.out HFS.out (by omega) (by omega), HE5.out, _, _, _, _, _, _, rfl, HN5.out.off HFO.out HFS.out (fun c hc => ⟨by omega, by omega⟩)⟩⟩
        ·
          go_simp
          refine (HCC.out _ KK.out.2.2.2).mono ?_
          have hq9 := KK.out.2.2.1.1
          rintro e v6 ⟨hk6, L1, hl6, hrs, hend, k9, u9, sq9, sn9, sc9, a9, rfl, hnd⟩
          refine hK.out _ _ trivial (fun hHeld => ?_)
          subst hl6
          replace KK : Hid (Kp g w v6 ∧ Bx v6 w.heap.size [.int .i64 0, .string ⟨#[]⟩, .slice none 0 0, .int .i64 0] ∧ Bx v6 B [.int .i64 7, .string ⟨#[]⟩, .slice none 0 0, .int .i64 r.2.2] ∧ RS g b cap T v6 L1 (d + 1) ∧ EndL (mL L1) ∧ NdAt (fun c => B < c) v6 n [.int .i64 k9, .string u9, .slice sq9 sn9 sc9, .int .i64 a9]) := ⟨KK.out.1.trans hk6, hk6.bx KK.out.2.1 (by omega), hk6.bx KK.out.2.2.1 hBg, hrs, hend, NdAt.keep (Nat.le_refl _) (fun c hc _ => ⟨by omega, rfl⟩) _ _ hnd⟩
          clear hK K hk6 hrs hend hnd hq9
          refine wpAnyH_ready (rs := [1, 5]) (by kernel_rfl) (by simp) (AllReadyH.cons (o := { dst := some 52, op := _, type := _, pos := _, after := _, guard := none }) rfl (fun K hK => ?_) (AllReadyH.cons (o := { dst := some 56, op := _, type := _, pos := _, after := _, guard := none }) rfl (fun K hK => ?_) AllReadyH.nil))
          ·
            have q0 := KK.out.2.2.1.c 2 rfl
            have q9 := KK.out.2.2.1.1
            go_simp
            refine hK.out _ _ trivial (fun hHeld => ?_)
            clear hK K q0 q9
            refine wpAnyH_ready (rs := [5]) (by kernel_rfl) (by simp) (AllReadyH.cons (o := { dst := some 56, op := _, type := _, pos := _, after := _, guard := none }) rfl (fun K hK => ?_) AllReadyH.nil)
            have hwB := KK.out.2.2.1.1
            go_simp
            refine hK.out _ _ trivial (fun hHeld => ?_)
            obtain ⟨BR, hBR⟩ : ∃ BR, BR = v6.heap.size := ⟨_, rfl⟩
            have BN : Hid (BS v6 [(v6.heap.size, [.int .i64 k9, .string u9, .slice sq9 sn9 sc9, .int .i64 a9])] (v6.alloc (.cells #[.int .i64 k9, .string u9, .slice sq9 sn9 sc9, .int .i64 a9] 30))) := (BS.start v6).new [.int .i64 k9, .string u9, .slice sq9 sn9 sc9, .int .i64 a9] 30 rfl
            have KN : Hid ((Kp g w (v6.alloc (.cells #[.int .i64 k9, .string u9, .slice sq9 sn9 sc9, .int .i64 a9] 30)) ∧ Bx (v6.alloc (.cells #[.int .i64 k9, .string u9, .slice sq9 sn9 sc9, .int .i64 a9] 30)) w.heap.size [.int .i64 0, .string ⟨#[]⟩, .slice none 0 0, .int .i64 0] ∧ Bx (v6.alloc (.cells #[.int .i64 k9, .string u9, .slice sq9 sn9 sc9, .int .i64 a9] 30)) B [.int .i64 7, .string ⟨#[]⟩, .slice none 0 0, .int .i64 r.2.2] ∧ RS g b cap T (v6.alloc (.cells #[.int .i64 k9, .string u9, .slice sq9 sn9 sc9, .int .i64 a9] 30)) L1 (d + 1) ∧ EndL (mL L1) ∧ NdAt (fun c => B < c) (v6.alloc (.cells #[.int .i64 k9, .string u9, .slice sq9 sn9 sc9, .int .i64 a9] 30)) n [.int .i64 k9, .string u9, .slice sq9 sn9 sc9, .int .i64 a9]) ∧ Bx (v6.alloc (.cells #[.int .i64 k9, .string u9, .slice sq9 sn9 sc9, .int .i64 a9] 30)) BR [.int .i64 k9, .string u9, .slice sq9 sn9 sc9, .int .i64 a9]) := ⟨⟨KK.out.1.alloc _, KK.out.2.1.alloc _, KK.out.2.2.1.alloc _, KK.out.2.2.2.1.below BN.out.1, KK.out.2.2.2.2.1, KK.out.2.2.2.2.2.below BN.out.1⟩, by rw [hBR]; exact BN.out.first⟩
            refine gen_anyR (fun V' => (Kp g w V' ∧ Bx V' w.heap.size [.int .i64 0, .string ⟨#[]⟩, .slice none 0 0, .int .i64 0] ∧ Bx V' B [.int .i64 7, .string ⟨#[]⟩, .slice none 0 0, .int .i64 r.2.2] ∧ RS g b cap T V' L1 (d + 1) ∧ EndL (mL L1) ∧ NdAt (fun c => B < c) V' n [.int .i64 k9, .string u9, .slice sq9 sn9 sc9, .int .i64 a9]) ∧ Bx V' BR [.int .i64 k9, .string u9, .slice sq9 sn9 sc9, .int .i64 a9]) KN.out ?_
            have hBR1 : B < BR := by omega
            rw [← hBR]
            clear hHeld hK K KN BN hBR hwB KK
            rintro v8 ⟨kk1, kk2⟩
            have KK : Hid (Kp g w v8 ∧ Bx v8 w.heap.size [.int .i64 0, .string ⟨#[]⟩, .slice none 0 0, .int .i64 0] ∧ Bx v8 B [.int .i64 7, .string ⟨#[]⟩, .slice none 0 0, .int .i64 r.2.2] ∧ RS g b cap T v8 L1 (d + 1) ∧ EndL (mL L1) ∧ NdAt (fun c => B < c) v8 n [.int .i64 k9, .string u9, .slice sq9 sn9 sc9, .int .i64 a9]) := kk1
            have HRW : Hid (Bx v8 BR [.int .i64 k9, .string u9, .slice sq9 sn9 sc9, .int .i64 a9]) := kk2
            clear kk1 kk2
            have hHeld : True := trivial
            refine wpAnyH_ready (rs := [6]) (by kernel_rfl) (by simp) (AllReadyH.cons (o := { dst := some 57, op := _, type := _, pos := _, after := _, guard := none }) rfl (fun K hK => ?_) AllReadyH.nil)
            refine (if_pos (by kernel_rfl)).mpr (wp_append_new _ _ 28 rfl v8.heap.size 30 i0 (.agg #[.int .i64 0, .string ByteArray.empty, .slice none 0 0, .int .i64 0]) 4 56 Tryd.underlying28 hi0 iz0 iz1 iz2 rfl (by decide) (.slice none 0 0) 0 [] rfl (World.ownsRow_nil _ _ _ _) ⟨BR, 0, none⟩ 1 [.int .i64 k9, .string u9, .slice sq9 sn9 sc9, .int .i64 a9] rfl rfl (fun j u hj => by rw [show (⟨BR, 0, none⟩ : Addr).add j = ⟨BR, j, none⟩ from by rw [Addr.add_lit]; simp]; exact (HRW.out.2 j u hj).1) (by intro u hu; simp at hu; rcases hu with rfl | rfl | rfl | rfl <;> rfl) (by unfold maxLen; omega) (by omega) (Nat.le_refl _) ?_)
            intro v' w4 hown' hgrow hnew
            obtain ⟨sq', sn', sc', hv'⟩ := own_form hown'
            subst hv'
            have hgb : Below _ _ w4 := grown_below hgrow
            have HO : Hid (w4.ownsRow v8.heap.size 30 4 (.slice sq' sn' sc') 1 [.int .i64 k9, .string u9, .slice sq9 sn9 sc9, .int .i64 a9]) := hown'
            have hBV : B < v8.heap.size := KK.out.2.2.1.1
            have K4 : Hid (Kp g w w4 ∧ Bx w4 w.heap.size [.int .i64 0, .string ⟨#[]⟩, .slice none 0 0, .int .i64 0] ∧ Bx w4 B [.int .i64 7, .string ⟨#[]⟩, .slice none 0 0, .int .i64 r.2.2] ∧ RS g b cap T w4 L1 (d + 1) ∧ EndL (mL L1) ∧ NdAt (fun c => B < c) w4 n [.int .i64 k9, .string u9, .slice sq9 sn9 sc9, .int .i64 a9]) := ⟨KK.out.1.trans (Kp.of hgb), KK.out.2.1.below hgb, KK.out.2.2.1.below hgb, KK.out.2.2.2.1.below hgb, KK.out.2.2.2.2.1, KK.out.2.2.2.2.2.below hgb⟩
            refine hK.out _ _ trivial (fun hHeld => ?_)
            clear hK K hown' hgrow hnew hgb KK HRW
            refine wpAnyH_take (i := 7) (v := ?_) (oi := { dst := some 58, op := _, type := _, pos := _, after := _, guard := none }) rfl (by kernel_rfl) (by kernel_rfl) (by kernel_rfl) (fun _ _ _ h => h) (Or.inl ⟨by kernel_rfl, ?_⟩) (by assumption) ?_
            case refine_2 => (intro w9 hSw; clear hSw; go_simp; try with_reducible rfl)
            simp only [Act.put, List.setIfInBounds_toArray, List.set_cons_zero, List.set_cons_succ]
            refine wpAnyH_ready (rs := [8]) (by kernel_rfl) (by simp) (AllReadyH.cons (o := { dst := none, op := _, type := _, pos := _, after := _, guard := none }) rfl (fun K hK => ?_) AllReadyH.nil)
            obtain ⟨R1, cp1, hv1, hc1, hc2, hR1, hR2, hRw⟩ := row_one HO.out K4.out.2.2.2.2.2
            obtain ⟨rfl, rfl, rfl⟩ : sq' = some ⟨R1, 0, none⟩ ∧ sn' = 1 ∧ sc' = cp1 := by cases hv1; exact ⟨rfl, rfl, rfl⟩
            have hn7 : NdAt (fun c => B < c) w4 (.mk 7 ByteArray.empty [n] r.2.2) [.int .i64 7, .string ⟨#[]⟩, .slice (some ⟨R1, 0, none⟩) 1 sc', .int .i64 r.2.2] := NdAt.row (ks := [n]) (by simp) hc1 hc2 (by omega) hR2 hRw
            have hoff : ∀ c, c < w4.heap.size → c ≠ B → (w4.setCell ⟨B, 2, none⟩ (.slice (some ⟨R1, 0, none⟩) 1 sc')).heap[c]? = w4.heap[c]? := fun c _ hc => Below.heap_setCell _ _ _ _ hc
            have K7 : Hid (Kp g w (w4.setCell ⟨B, 2, none⟩ (.slice (some ⟨R1, 0, none⟩) 1 sc')) ∧ Bx (w4.setCell ⟨B, 2, none⟩ (.slice (some ⟨R1, 0, none⟩) 1 sc')) w.heap.size [.int .i64 0, .string ⟨#[]⟩, .slice none 0 0, .int .i64 0] ∧ Bx (w4.setCell ⟨B, 2, none⟩ (.slice (some ⟨R1, 0, none⟩) 1 sc')) B [.int .i64 7, .string ⟨#[]⟩, .slice (some ⟨R1, 0, none⟩) 1 sc', .int .i64 r.2.2] ∧ RS g b cap T (w4.setCell ⟨B, 2, none⟩ (.slice (some ⟨R1, 0, none⟩) 1 sc')) L1 (d + 1) ∧ EndL (mL L1) ∧ NdAt (fun c => B < c) (w4.setCell ⟨B, 2, none⟩ (.slice (some ⟨R1, 0, none⟩) 1 sc')) (.mk 7 ByteArray.empty [n] r.2.2) [.int .i64 7, .string ⟨#[]⟩, .slice (some ⟨R1, 0, none⟩) 1 sc', .int .i64 r.2.2]) := ⟨K4.out.1.set (p := ⟨B, 2, none⟩) (.inr (by show _ ≤ B; omega)) _, K4.out.2.1.setOther (by omega) [_] 2, K4.out.2.2.1.set1 2 _ (by simp), K4.out.2.2.2.1.off (r := B) hoff (by simp) (by omega) (by omega), K4.out.2.2.2.2.1, hn7.off (r := B) hoff (by simp) (fun c hc => ⟨hc, by omega⟩)⟩
            have z2 := K4.out.2.2.1.f 2 rfl
            have c2 := K4.out.2.2.1.c 2 rfl
            have hB4 := K4.out.2.2.1.1
            go_simp
            refine hK.out _ _ trivial (fun hHeld => ?_)
            refine gen_anyR (fun V => Kp g w V ∧ Bx V w.heap.size [.int .i64 0, .string ⟨#[]⟩, .slice none 0 0, .int .i64 0] ∧ Bx V B [.int .i64 7, .string ⟨#[]⟩, .slice (some ⟨R1, 0, none⟩) 1 sc', .int .i64 r.2.2] ∧ RS g b cap T V L1 (d + 1) ∧ EndL (mL L1) ∧ NdAt (fun c => B < c) V (.mk 7 ByteArray.empty [n] r.2.2) [.int .i64 7, .string ⟨#[]⟩, .slice (some ⟨R1, 0, none⟩) 1 sc', .int .i64 r.2.2]) K7.out ?_
            clear hK K z2 c2 hB4 K7 K4 HO hoff hHeld hn7 hRw hv1
            intro v10 hv7
            have KK : Hid (Kp g w v10 ∧ Bx v10 w.heap.size [.int .i64 0, .string ⟨#[]⟩, .slice none 0 0, .int .i64 0] ∧ Bx v10 B [.int .i64 7, .string ⟨#[]⟩, .slice (some ⟨R1, 0, none⟩) 1 sc', .int .i64 r.2.2] ∧ RS g b cap T v10 L1 (d + 1) ∧ EndL (mL L1) ∧ NdAt (fun c => B < c) v10 (.mk 7 ByteArray.empty [n] r.2.2) [.int .i64 7, .string ⟨#[]⟩, .slice (some ⟨R1, 0, none⟩) 1 sc', .int .i64 r.2.2]) := hv7
            clear hv7
            have hHeld : True := trivial
            refine wpAnyH_done (by kernel_rfl) ?_ _
            obtain ⟨⟨pre4, pa4, he4, hb4⟩, -⟩ := KK.out.2.2.2.1
            have cg1 := hb4.c 1 rfl
            have fg1 := hb4.f 1 rfl
            have hgl := hb4.1
            clear hb4 he4
            have hdw : IntKind.i64.wrap ((d : Int) + 1 - 1) = (d : Int) := by rw [IntKind.wrap_i64]; omega
            have hdw2 : IntKind.i64.wrap (d : Int) = (d : Int) := by rw [IntKind.wrap_i64]; omega
            go_upto_region 17 with fail
            refine gen_to (fun V => Kp g w V ∧ Bx V w.heap.size [.int .i64 0, .string ⟨#[]⟩, .slice none 0 0, .int .i64 0] ∧ RS g b cap T V L1 d ∧ Bx V B [.int .i64 7, .string ⟨#[]⟩, .slice (some ⟨R1, 0, none⟩) 1 sc', .int .i64 r.2.2] ∧ NdAt (fun c => B < c) V (.mk 7 ByteArray.empty [n] r.2.2) [.int .i64 7, .string ⟨#[]⟩, .slice (some ⟨R1, 0, none⟩) 1 sc', .int .i64 r.2.2]) (rdeep_ok hg KK.out.1 KK.out.2.1 (by omega) KK.out.2.2.2.1 KK.out.2.2.1 hBg KK.out.2.2.2.2.2 (fun c hc => by omega)) ?_
            have HE5 : Hid (EndL (mL L1)) := KK.out.2.2.2.2.1
            rintro W8 ⟨k8, h8, s8, t8, n8⟩
            have HK5 : Hid (Kp g w W8) := k8
            have HH5 : Hid (Bx W8 w.heap.size [.int .i64 0, .string ⟨#[]⟩, .slice none 0 0, .int .i64 0]) := h8
            have HS5 : Hid (RS g b cap T W8 L1 d) := s8
            have HN5 : Hid (NdAt (fun c => B < c) W8 (.mk 7 ByteArray.empty [n] r.2.2) [.int .i64 7, .string ⟨#[]⟩, .slice (some ⟨R1, 0, none⟩) 1 sc', .int .i64 r.2.2]) := n8
            have l0' := t8.c 0 rfl
            have l1' := t8.c 1 rfl
            have l2' := t8.c 2 rfl
            have l3' := t8.c 3 rfl
            have hl' := t8.1
            clear k8 h8 s8 t8 n8 cg1 fg1 hgl KK hHeld
            obtain ⟨FK, FB, FO, FS⟩ := fin4 [] (.int .i64 7) (.string ⟨#[]⟩) (.slice (some ⟨R1, 0, none⟩) 1 sc') (.int .i64 r.2.2) HK5.out (Nat.le_refl _) (HH5.out)
            have y0' := FB.c 0 rfl
            have y1' := FB.c 1 rfl
            have y2' := FB.c 2 rfl
            have y3' := FB.c 3 rfl
            simp only [List.foldl, World.setCells, Nat.zero_add, Nat.reduceAdd] at y0' y1' y2' y3'
            have HFK : Hid _ := FK
            have HFO : Hid _ := FO
            have HFS : Hid _ := FS
            clear FK FB FO FS
            have rr0 := (HH5.out).c 0 rfl
            have rr1 := (HH5.out).c 1 rfl
            have rr2 := (HH5.out).c 2 rfl
            have rr3 := (HH5.out).c 3 rfl
            have rf0 := (HH5.out).f 0 rfl
            have rf1 := (HH5.out).f 1 rfl
            have rf2 := (HH5.out).f 2 rfl
            have rf3 := (HH5.out).f 3 rfl
            have hrw' := (HH5.out).1
            go_wp2
            refine bodyPost_ret (v := .agg #[.int .i64 7, .string ⟨#[]⟩, .slice (some ⟨R1, 0, none⟩) 1 sc', .int .i64 r.2.2]) (by simp [results, Tryd.results18, go_sem, y0', y1', y2', y3']) rfl ⟨HFK.out, by rw [HR9.out]; exact ⟨L1, rfl, HS5.out.off HFO.out HFS.out (by omega) (by omega), HE5.out, _, _, _, _, _, _, rfl, HN5.out.off HFO.out HFS.out (fun c hc => ⟨by omega, by omega⟩)⟩⟩
          ·
            have hwB := KK.out.2.2.1.1
            go_simp
            refine hK.out _ _ trivial (fun hHeld => ?_)
            obtain ⟨BR, hBR⟩ : ∃ BR, BR = v6.heap.size := ⟨_, rfl⟩
            have BN : Hid (BS v6 [(v6.heap.size, [.int .i64 k9, .string u9, .slice sq9 sn9 sc9, .int .i64 a9])] (v6.alloc (.cells #[.int .i64 k9, .string u9, .slice sq9 sn9 sc9, .int .i64 a9] 30))) := (BS.start v6).new [.int .i64 k9, .string u9, .slice sq9 sn9 sc9, .int .i64 a9] 30 rfl
            have KN : Hid ((Kp g w (v6.alloc (.cells #[.int .i64 k9, .string u9, .slice sq9 sn9 sc9, .int .i64 a9] 30)) ∧ Bx (v6.alloc (.cells #[.int .i64 k9, .string u9, .slice sq9 sn9 sc9, .int .i64 a9] 30)) w.heap.size [.int .i64 0, .string ⟨#[]⟩, .slice none 0 0, .int .i64 0] ∧ Bx (v6.alloc (.cells #[.int .i64 k9, .string u9, .slice sq9 sn9 sc9, .int .i64 a9] 30)) B [.int .i64 7, .string ⟨#[]⟩, .slice none 0 0, .int .i64 r.2.2] ∧ RS g b cap T (v6.alloc (.cells #[.int .i64 k9, .string u9, .slice sq9 sn9 sc9, .int .i64 a9] 30)) L1 (d + 1) ∧ EndL (mL L1) ∧ NdAt (fun c => B < c) (v6.alloc (.cells #[.int .i64 k9, .string u9, .slice sq9 sn9 sc9, .int .i64 a9] 30)) n [.int .i64 k9, .string u9, .slice sq9 sn9 sc9, .int .i64 a9]) ∧ Bx (v6.alloc (.cells #[.int .i64 k9, .string u9, .slice sq9 sn9 sc9, .int .i64 a9] 30)) BR [.int .i64 k9, .string u9, .slice sq9 sn9 sc9, .int .i64 a9]) := ⟨⟨KK.out.1.alloc _, KK.out.2.1.alloc _, KK.out.2.2.1.alloc _, KK.out.2.2.2.1.below BN.out.1, KK.out.2.2.2.2.1, KK.out.2.2.2.2.2.below BN.out.1⟩, by rw [hBR]; exact BN.out.first⟩
            refine gen_anyR (fun V' => (Kp g w V' ∧ Bx V' w.heap.size [.int .i64 0, .string ⟨#[]⟩, .slice none 0 0, .int .i64 0] ∧ Bx V' B [.int .i64 7, .string ⟨#[]⟩, .slice none 0 0, .int .i64 r.2.2] ∧ RS g b cap T V' L1 (d + 1) ∧ EndL (mL L1) ∧ NdAt (fun c => B < c) V' n [.int .i64 k9, .string u9, .slice sq9 sn9 sc9, .int .i64 a9]) ∧ Bx V' BR [.int .i64 k9, .string u9, .slice sq9 sn9 sc9, .int .i64 a9]) KN.out ?_
            have hBR1 : B < BR := by omega
            rw [← hBR]
            clear hHeld hK K KN BN hBR hwB KK
            rintro v11 ⟨kk1, kk2⟩
            have KK : Hid (Kp g w v11 ∧ Bx v11 w.heap.size [.int .i64 0, .string ⟨#[]⟩, .slice none 0 0, .int .i64 0] ∧ Bx v11 B [.int .i64 7, .string ⟨#[]⟩, .slice none 0 0, .int .i64 r.2.2] ∧ RS g b cap T v11 L1 (d + 1) ∧ EndL (mL L1) ∧ NdAt (fun c => B < c) v11 n [.int .i64 k9, .string u9, .slice sq9 sn9 sc9, .int .i64 a9]) := kk1
            have HRW : Hid (Bx v11 BR [.int .i64 k9, .string u9, .slice sq9 sn9 sc9, .int .i64 a9]) := kk2
            clear kk1 kk2
            have hHeld : True := trivial
            refine wpAnyH_ready (rs := [1]) (by kernel_rfl) (by simp) (AllReadyH.cons (o := { dst := some 52, op := _, type := _, pos := _, after := _, guard := none }) rfl (fun K hK => ?_) AllReadyH.nil)
            have q0 := KK.out.2.2.1.c 2 rfl
            have q9 := KK.out.2.2.1.1
            go_simp
            refine hK.out _ _ trivial (fun hHeld => ?_)
            clear hK K q0 q9
            refine wpAnyH_ready (rs := [6]) (by kernel_rfl) (by simp) (AllReadyH.cons (o := { dst := some 57, op := _, type := _, pos := _, after := _, guard := none }) rfl (fun K hK => ?_) AllReadyH.nil)
            refine (if_pos (by kernel_rfl)).mpr (wp_append_new _ _ 28 rfl v11.heap.size 30 i0 (.agg #[.int .i64 0, .string ByteArray.empty, .slice none 0 0, .int .i64 0]) 4 56 Tryd.underlying28 hi0 iz0 iz1 iz2 rfl (by decide) (.slice none 0 0) 0 [] rfl (World.ownsRow_nil _ _ _ _) ⟨BR, 0, none⟩ 1 [.int .i64 k9, .string u9, .slice sq9 sn9 sc9, .int .i64 a9] rfl rfl (fun j u hj => by rw [show (⟨BR, 0, none⟩ : Addr).add j = ⟨BR, j, none⟩ from by rw [Addr.add_lit]; simp]; exact (HRW.out.2 j u hj).1) (by intro u hu; simp at hu; rcases hu with rfl | rfl | rfl | rfl <;> rfl) (by unfold maxLen; omega) (by omega) (Nat.le_refl _) ?_)
            intro v' w4 hown' hgrow hnew
            obtain ⟨sq', sn', sc', hv'⟩ := own_form hown'
            subst hv'
            have hgb : Below _ _ w4 := grown_below hgrow
            have HO : Hid (w4.ownsRow v11.heap.size 30 4 (.slice sq' sn' sc') 1 [.int .i64 k9, .string u9, .slice sq9 sn9 sc9, .int .i64 a9]) := hown'
            have hBV : B < v11.heap.size := KK.out.2.2.1.1
            have K4 : Hid (Kp g w w4 ∧ Bx w4 w.heap.size [.int .i64 0, .string ⟨#[]⟩, .slice none 0 0, .int .i64 0] ∧ Bx w4 B [.int .i64 7, .string ⟨#[]⟩, .slice none 0 0, .int .i64 r.2.2] ∧ RS g b cap T w4 L1 (d + 1) ∧ EndL (mL L1) ∧ NdAt (fun c => B < c) w4 n [.int .i64 k9, .string u9, .slice sq9 sn9 sc9, .int .i64 a9]) := ⟨KK.out.1.trans (Kp.of hgb), KK.out.2.1.below hgb, KK.out.2.2.1.below hgb, KK.out.2.2.2.1.below hgb, KK.out.2.2.2.2.1, KK.out.2.2.2.2.2.below hgb⟩
            refine hK.out _ _ trivial (fun hHeld => ?_)
            clear hK K hown' hgrow hnew hgb KK HRW
            refine wpAnyH_take (i := 7) (v := ?_) (oi := { dst := some 58, op := _, type := _, pos := _, after := _, guard := none }) rfl (by kernel_rfl) (by kernel_rfl) (by kernel_rfl) (fun _ _ _ h => h) (Or.inl ⟨by kernel_rfl, ?_⟩) (by assumption) ?_
            case refine_2 => (intro w9 hSw; clear hSw; go_simp; try with_reducible rfl)
            simp only [Act.put, List.setIfInBounds_toArray, List.set_cons_zero, List.set_cons_succ]
            refine wpAnyH_ready (rs := [8]) (by kernel_rfl) (by simp) (AllReadyH.cons (o := { dst := none, op := _, type := _, pos := _, after := _, guard := none }) rfl (fun K hK => ?_) AllReadyH.nil)
            obtain ⟨R1, cp1, hv1, hc1, hc2, hR1, hR2, hRw⟩ := row_one HO.out K4.out.2.2.2.2.2
            obtain ⟨rfl, rfl, rfl⟩ : sq' = some ⟨R1, 0, none⟩ ∧ sn' = 1 ∧ sc' = cp1 := by cases hv1; exact ⟨rfl, rfl, rfl⟩
            have hn7 : NdAt (fun c => B < c) w4 (.mk 7 ByteArray.empty [n] r.2.2) [.int .i64 7, .string ⟨#[]⟩, .slice (some ⟨R1, 0, none⟩) 1 sc', .int .i64 r.2.2] := NdAt.row (ks := [n]) (by simp) hc1 hc2 (by omega) hR2 hRw
            have hoff : ∀ c, c < w4.heap.size → c ≠ B → (w4.setCell ⟨B, 2, none⟩ (.slice (some ⟨R1, 0, none⟩) 1 sc')).heap[c]? = w4.heap[c]? := fun c _ hc => Below.heap_setCell _ _ _ _ hc
            have K7 : Hid (Kp g w (w4.setCell ⟨B, 2, none⟩ (.slice (some ⟨R1, 0, none⟩) 1 sc')) ∧ Bx (w4.setCell ⟨B, 2, none⟩ (.slice (some ⟨R1, 0, none⟩) 1 sc')) w.heap.size [.int .i64 0, .string ⟨#[]⟩, .slice none 0 0, .int .i64 0] ∧ Bx (w4.setCell ⟨B, 2, none⟩ (.slice (some ⟨R1, 0, none⟩) 1 sc')) B [.int .i64 7, .string ⟨#[]⟩, .slice (some ⟨R1, 0, none⟩) 1 sc', .int .i64 r.2.2] ∧ RS g b cap T (w4.setCell ⟨B, 2, none⟩ (.slice (some ⟨R1, 0, none⟩) 1 sc')) L1 (d + 1) ∧ EndL (mL L1) ∧ NdAt (fun c => B < c) (w4.setCell ⟨B, 2, none⟩ (.slice (some ⟨R1, 0, none⟩) 1 sc')) (.mk 7 ByteArray.empty [n] r.2.2) [.int .i64 7, .string ⟨#[]⟩, .slice (some ⟨R1, 0, none⟩) 1 sc', .int .i64 r.2.2]) := ⟨K4.out.1.set (p := ⟨B, 2, none⟩) (.inr (by show _ ≤ B; omega)) _, K4.out.2.1.setOther (by omega) [_] 2, K4.out.2.2.1.set1 2 _ (by simp), K4.out.2.2.2.1.off (r := B) hoff (by simp) (by omega) (by omega), K4.out.2.2.2.2.1, hn7.off (r := B) hoff (by simp) (fun c hc => ⟨hc, by omega⟩)⟩
            have z2 := K4.out.2.2.1.f 2 rfl
            have c2 := K4.out.2.2.1.c 2 rfl
            have hB4 := K4.out.2.2.1.1
            go_simp
            refine hK.out _ _ trivial (fun hHeld => ?_)
            refine gen_anyR (fun V => Kp g w V ∧ Bx V w.heap.size [.int .i64 0, .string ⟨#[]⟩, .slice none 0 0, .int .i64 0] ∧ Bx V B [.int .i64 7, .string ⟨#[]⟩, .slice (some ⟨R1, 0, none⟩) 1 sc', .int .i64 r.2.2] ∧ RS g b cap T V L1 (d + 1) ∧ EndL (mL L1) ∧ NdAt (fun c => B < c) V (.mk 7 ByteArray.empty [n] r.2.2) [.int .i64 7, .string ⟨#[]⟩, .slice (some ⟨R1, 0, none⟩) 1 sc', .int .i64 r.2.2]) K7.out ?_
            clear hK K z2 c2 hB4 K7 K4 HO hoff hHeld hn7 hRw hv1
            intro v14 hv7
            have KK : Hid (Kp g w v14 ∧ Bx v14 w.heap.size [.int .i64 0, .string ⟨#[]⟩, .slice none 0 0, .int .i64 0] ∧ Bx v14 B [.int .i64 7, .string ⟨#[]⟩, .slice (some ⟨R1, 0, none⟩) 1 sc', .int .i64 r.2.2] ∧ RS g b cap T v14 L1 (d + 1) ∧ EndL (mL L1) ∧ NdAt (fun c => B < c) v14 (.mk 7 ByteArray.empty [n] r.2.2) [.int .i64 7, .string ⟨#[]⟩, .slice (some ⟨R1, 0, none⟩) 1 sc', .int .i64 r.2.2]) := hv7
            clear hv7
            have hHeld : True := trivial
            refine wpAnyH_done (by kernel_rfl) ?_ _
            obtain ⟨⟨pre4, pa4, he4, hb4⟩, -⟩ := KK.out.2.2.2.1
            have cg1 := hb4.c 1 rfl
            have fg1 := hb4.f 1 rfl
            have hgl := hb4.1
            clear hb4 he4
            have hdw : IntKind.i64.wrap ((d : Int) + 1 - 1) = (d : Int) := by rw [IntKind.wrap_i64]; omega
            have hdw2 : IntKind.i64.wrap (d : Int) = (d : Int) := by rw [IntKind.wrap_i64]; omega
            go_upto_region 17 with fail
            refine gen_to (fun V => Kp g w V ∧ Bx V w.heap.size [.int .i64 0, .string ⟨#[]⟩, .slice none 0 0, .int .i64 0] ∧ RS g b cap T V L1 d ∧ Bx V B [.int .i64 7, .string ⟨#[]⟩, .slice (some ⟨R1, 0, none⟩) 1 sc', .int .i64 r.2.2] ∧ NdAt (fun c => B < c) V (.mk 7 ByteArray.empty [n] r.2.2) [.int .i64 7, .string ⟨#[]⟩, .slice (some ⟨R1, 0, none⟩) 1 sc', .int .i64 r.2.2]) (rdeep_ok hg KK.out.1 KK.out.2.1 (by omega) KK.out.2.2.2.1 KK.out.2.2.1 hBg KK.out.2.2.2.2.2 (fun c hc => by omega)) ?_
            have HE5 : Hid (EndL (mL L1)) := KK.out.2.2.2.2.1
            rintro W8 ⟨k8, h8, s8, t8, n8⟩
            have HK5 : Hid (Kp g w W8) := k8
            have HH5 : Hid (Bx W8 w.heap.size [.int .i64 0, .string ⟨#[]⟩, .slice none 0 0, .int .i64 0]) := h8
            have HS5 : Hid (RS g b cap T W8 L1 d) := s8
            have HN5 : Hid (NdAt (fun c => B < c) W8 (.mk 7 ByteArray.empty [n] r.2.2) [.int .i64 7, .string ⟨#[]⟩, .slice (some ⟨R1, 0, none⟩) 1 sc', .int .i64 r.2.2]) := n8
            have l0' := t8.c 0 rfl
            have l1' := t8.c 1 rfl
            have l2' := t8.c 2 rfl
            have l3' := t8.c 3 rfl
            have hl' := t8.1
            clear k8 h8 s8 t8 n8 cg1 fg1 hgl KK hHeld
            obtain ⟨FK, FB, FO, FS⟩ := fin4 [] (.int .i64 7) (.string ⟨#[]⟩) (.slice (some ⟨R1, 0, none⟩) 1 sc') (.int .i64 r.2.2) HK5.out (Nat.le_refl _) (HH5.out)
            have y0' := FB.c 0 rfl
            have y1' := FB.c 1 rfl
            have y2' := FB.c 2 rfl
            have y3' := FB.c 3 rfl
            simp only [List.foldl, World.setCells, Nat.zero_add, Nat.reduceAdd] at y0' y1' y2' y3'
            have HFK : Hid _ := FK
            have HFO : Hid _ := FO
            have HFS : Hid _ := FS
            clear FK FB FO FS
            have rr0 := (HH5.out).c 0 rfl
            have rr1 := (HH5.out).c 1 rfl
            have rr2 := (HH5.out).c 2 rfl
            have rr3 := (HH5.out).c 3 rfl
            have rf0 := (HH5.out).f 0 rfl
            have rf1 := (HH5.out).f 1 rfl
            have rf2 := (HH5.out).f 2 rfl
            have rf3 := (HH5.out).f 3 rfl
            have hrw' := (HH5.out).1
            go_wp2
            refine bodyPost_ret (v := .agg #[.int .i64 7, .string ⟨#[]⟩, .slice (some ⟨R1, 0, none⟩) 1 sc', .int .i64 r.2.2]) (by simp [results, Tryd.results18, go_sem, y0', y1', y2', y3']) rfl ⟨HFK.out, by rw [HR9.out]; exact ⟨L1, rfl, HS5.out.off HFO.out HFS.out (by omega) (by omega), HE5.out, _, _, _, _, _, _, rfl, HN5.out.off HFO.out HFS.out (fun c hc => ⟨by omega, by omega⟩)⟩⟩
  · rw [Bool.not_eq_true] at hi
    rw [hi] at hsg hR
    rw [if_neg (by simp)] at hR
    have HSi := rsign_any g b cap T l r HGr.out notB (fun z => by rw [hsg] at z; cases z) d _ HP0.out
    rw [hsg, if_neg (by simp)] at HSi
    have HSg : Hid _ := HSi
    clear HSi hsg hi
    have HCC : Hid (∀ V : World, RS g b cap T V (r :: l) d → Calls Tryd.prog 18 #[.pointer (some ⟨g, 0, none⟩), .int .i64 3] V fun e w' => Kp g V w' ∧ ROut g b V.heap.size cap T (fun c => V.heap.size ≤ c) w' d e R) := fun V hV => by rw [← hR]; exact HA.out V (r :: l) d f hV HL.out hd (by simp only [List.length_cons]; omega) (by simp only [need, mL_cons, List.length_cons, mL_len]; omega)
    clear hR
    go_enter Tryd.func18, Tryd.ntmps18
    go_wp2_with fail
    refine Calls.mono HSg.out ?_
    rintro e W1 ⟨rfl, hk1, hr1⟩
    have hz1 : w.heap.size + 1 ≤ W1.heap.size := by have := hk1.size; (try simp at this); omega
    have K1 : Hid (Kp g w W1) := (Kp.of B0.out.1).trans hk1
    have H1 : Hid (Bx W1 w.heap.size [.int .i64 0, .string ⟨#[]⟩, .slice none 0 0, .int .i64 0]) := hk1.bx B0.out.first (by omega)
    have S1 : Hid (RS g b cap T W1 (r :: l) d) := hr1
    clear hk1 hr1 B0 HP HP0 HSg cg0 cg1 cg2 fg0 fg1 t0 t1 t2 hgW hbW hlen hmost hle HEQ HBX HTR hne
    go_wp2_with fail
    refine (HCC.out _ S1.out).mono ?_
    rintro e W2 ⟨hk2, ho⟩
    have hz2 : w.heap.size + 1 ≤ W2.heap.size := by have := hk2.size; omega
    have K2 : Hid (Kp g w W2) := K1.out.trans hk2
    have H2 : Hid (Bx W2 w.heap.size [.int .i64 0, .string ⟨#[]⟩, .slice none 0 0, .int .i64 0]) := hk2.bx H1.out (by omega)
    clear hk2 HCC K1 H1 S1
    cases R with
    | no ea er =>
      obtain ⟨her, hf, k9, u9, sq9, sn9, sc9, a9, rfl⟩ := ho
      have HF : Hid (RF g b (w.heap.size + 1) W2 ea er) := hf.mono (by omega)
      have HER : Hid (er ≠ 0) := her
      clear hf her
      obtain ⟨FK, FB, FO, FS⟩ := fin4 [] (.int .i64 k9) (.string u9) (.slice sq9 sn9 sc9) (.int .i64 a9) K2.out (Nat.le_refl _) (H2.out)
      have y0' := FB.c 0 rfl
      have y1' := FB.c 1 rfl
      have y2' := FB.c 2 rfl
      have y3' := FB.c 3 rfl
      simp only [List.foldl, World.setCells, Nat.zero_add, Nat.reduceAdd] at y0' y1' y2' y3'
      have HFK : Hid _ := FK
      have HFO : Hid _ := FO
      have HFS : Hid _ := FS
      clear FK FB FO FS
      have rr0 := (H2.out).c 0 rfl
      have rr1 := (H2.out).c 1 rfl
      have rr2 := (H2.out).c 2 rfl
      have rr3 := (H2.out).c 3 rfl
      have rf0 := (H2.out).f 0 rfl
      have rf1 := (H2.out).f 1 rfl
      have rf2 := (H2.out).f 2 rfl
      have rf3 := (H2.out).f 3 rfl
      have hrw' := (H2.out).1
      go_wp2
      refine bodyPost_ret (v := .agg #[.int .i64 k9, .string u9, .slice sq9 sn9 sc9, .int .i64 a9]) (by simp [results, Tryd.results18, go_sem, y0', y1', y2', y3']) rfl ⟨HFK.out, HER.out, (HF.out.off HFO.out HFS.out (by omega) (by omega) (by omega)).mono (by omega), _, _, _, _, _, _, rfl⟩
    | ok n l1 =>
      obtain ⟨L1, rfl, hrs, hend, k9, u9, sq9, sn9, sc9, a9, rfl, hnd⟩ := ho
      have HS : Hid (RS g b cap T W2 L1 d) := hrs
      have HE1 : Hid (EndL (mL L1)) := hend
      have HNd : Hid (NdAt (fun c => w.heap.size + 1 ≤ c) W2 n [.int .i64 k9, .string u9, .slice sq9 sn9 sc9, .int .i64 a9]) := NdAt.keep (Nat.le_refl _) (fun c hc _ => ⟨by omega, rfl⟩) _ _ hnd
      clear hrs hend hnd
      obtain ⟨FK, FB, FO, FS⟩ := fin4 [] (.int .i64 k9) (.string u9) (.slice sq9 sn9 sc9) (.int .i64 a9) K2.out (Nat.le_refl _) (H2.out)
      have y0' := FB.c 0 rfl
      have y1' := FB.c 1 rfl
      have y2' := FB.c 2 rfl
      have y3' := FB.c 3 rfl
      simp only [List.foldl, World.setCells, Nat.zero_add, Nat.reduceAdd] at y0' y1' y2' y3'
      have HFK : Hid _ := FK
      have HFO : Hid _ := FO
      have HFS : Hid _ := FS
      clear FK FB FO FS
      have rr0 := (H2.out).c 0 rfl
      have rr1 := (H2.out).c 1 rfl
      have rr2 := (H2.out).c 2 rfl
      have rr3 := (H2.out).c 3 rfl
      have rf0 := (H2.out).f 0 rfl
      have rf1 := (H2.out).f 1 rfl
      have rf2 := (H2.out).f 2 rfl
      have rf3 := (H2.out).f 3 rfl
      have hrw' := (H2.out).1
      go_wp2
      refine bodyPost_ret (v := .agg #[.int .i64 k9, .string u9, .slice sq9 sn9 sc9, .int .i64 a9]) (by simp [results, Tryd.results18, go_sem, y0', y1', y2', y3']) rfl ⟨HFK.out, L1, rfl, HS.out.off HFO.out HFS.out (by omega) (by omega), HE1.out, _, _, _, _, _, _, rfl, HNd.out.off HFO.out HFS.out (fun c hc => ⟨by omega, by omega⟩)⟩

set_option maxRecDepth 100000 in
set_option maxHeartbeats 4000000 in
theorem rlv_6 (g b cap : Nat) (T : List Tk) (hG : Hid (∀ x ∈ T, GoodT x)) (N : Nat) (HA : Hid (RLv g b cap T 7 N)) (HB : Hid (RLv g b cap T 6 (N - 1))) : RLv g b cap T 6 N := by
  intro w L d f h hL hd hN hf
  obtain ⟨i0, hi0, iz0, iz1, iz2⟩ := info_parts infoNode22
  obtain ⟨r, l, rfl⟩ := mL_none hL
  obtain ⟨f, rfl⟩ : ∃ f', f = f' + 1 := ⟨f - 1, by simp only [need, mL_cons, List.length_cons] at hf; omega⟩
  have HGr : Hid (GoodT r) := h.good hG.out
  simp only [need, mL_cons, List.length_cons, mL_len] at hf hN
  have HL : Hid (EndL (mL (r :: l))) := hL
  have eP : par (f + 1) (.lv 6) d (mL (r :: l)) = (if isT (mT r) [(5, (b1 45))] then (if d = 20 then PR.no r.2.2 31 else match par f (.lv 6) (d + 1) (mL l) with | .ok n l1 => PR.ok (.mk 6 ByteArray.empty [n] r.2.2) l1 | .no a e => PR.no a e) else par f (.lv 7) d (mT r :: mL l)) := by
    rw [mL_cons, par_succ]; unfold pst; dsimp only
    rw [if_neg (by omega), if_pos rfl]
    rfl
  obtain ⟨R, hR⟩ : ∃ R, par (f + 1) (.lv 6) d (mL (r :: l)) = R := ⟨_, rfl⟩
  rw [hR]
  rw [eP] at hR
  clear eP hL
  have hsg := sg_sign HGr.out (show (b1 45) ∈ sgnL by unfold sgnL; simp)
  have hg := h.lt
  have hbl := h.tr.1
  have HP : Hid (RS g b cap T w (r :: l) d) := h
  obtain ⟨⟨pre, pa, he, hbx⟩, htr, hne, hle, hmost⟩ := id h
  have cg0 := hbx.c 0 rfl
  have cg1 := hbx.c 1 rfl
  have cg2 := hbx.c 2 rfl
  have fg0 := hbx.f 0 rfl
  have fg1 := hbx.f 1 rfl
  obtain ⟨t0, t1, t2⟩ := htr.at he
  have hgW := hbx.1
  have hbW := htr.1
  have hlen : T.length = pre.length + l.length + 1 := by rw [he]; simp <;> omega
  unfold maxLen at hmost
  have HEQ : Hid _ := he
  have HBX : Hid (Bx _ g _) := hbx
  have HTR : Hid (TR _ b T) := htr
  clear hbx htr he
  clear h
  have B0 : Hid (BS w [(w.heap.size, [.int .i64 0, .string ⟨#[]⟩, .slice none 0 0, .int .i64 0])] (w.alloc (.cells #[.int .i64 0, .string ⟨#[]⟩, .slice none 0 0, .int .i64 0] 30))) := ((BS.start w).new [.int .i64 0, .string ⟨#[]⟩, .slice none 0 0, .int .i64 0] 30 rfl)
  have HP0 : Hid (RS g b cap T (w.alloc (.cells #[.int .i64 0, .string ⟨#[]⟩, .slice none 0 0, .int .i64 0] 30)) (r :: l) d) := HP.out.below B0.out.1
  by_cases hi : isT (mT r) [(5, (b1 45))] = true
  · rw [hi] at hsg
    rw [if_pos hi] at hR
    have hEl : EndL (mL l) := EndL.tail HL.out (isT_kind hi (by simp))
    obtain ⟨q, l0, rfl⟩ := mL_none hEl
    have HE1 : Hid (EndL (mL (q :: l0))) := hEl
    have HSi := rsign_any g b cap T (q :: l0) r HGr.out (b1 45) (fun _ => by simp) d _ HP0.out
    rw [hsg, if_pos rfl] at HSi
    have HSg : Hid _ := HSi
    have HRR : Hid _ := hR
    clear HSi hsg hEl hi hR
    go_enter Tryd.func18, Tryd.ntmps18
    go_wp2_with fail
    refine Calls.mono HSg.out ?_
    rintro e W1 ⟨rfl, hk1, hr1⟩
    have hz1 : w.heap.size + 1 ≤ W1.heap.size := by have := hk1.size; (try simp at this); omega
    have K1 : Hid (Kp g w W1) := (Kp.of B0.out.1).trans hk1
    have H1 : Hid (Bx W1 w.heap.size [.int .i64 0, .string ⟨#[]⟩, .slice none 0 0, .int .i64 0]) := hk1.bx B0.out.first (by omega)
    have S1 : Hid (RS g b cap T W1 (q :: l0) d) := hr1
    have HGq : Hid (GoodT q) := hr1.good hG.out
    clear hk1 hr1 B0 HP HP0 HSg cg0 cg1 cg2 fg0 fg1 t0 t1 t2 hgW hbW hlen hmost hle HEQ HBX HTR hne
    by_cases h20 : d = 20
    · have HR9 : Hid (R = .no r.2.2 31) := by have := HRR.out; rw [if_pos h20] at this; exact this.symm
      subst h20
      have HIn : Hid _ := rinner_no g b (w.heap.size + 1) cap T l0 q HGq.out.size r.2.2 W1 S1.out
      clear HRR
      go_wp2_with fail
      refine Calls.mono HIn.out ?_
      rintro e W6 ⟨rfl, hk6, hf6⟩
      have K9 : Hid (Kp g w W6) := K1.out.trans hk6
      have H9 : Hid (Bx W6 w.heap.size [.int .i64 0, .string ⟨#[]⟩, .slice none 0 0, .int .i64 0]) := hk6.bx H1.out (by omega)
      have HF6 : Hid (RF g b (w.heap.size + 1) W6 r.2.2 31) := hf6
      clear hk6 hf6 HIn K1 H1 S1
      obtain ⟨FK, FB, FO, FS⟩ := fin4 [] (.int .i64 0) (.string ⟨#[]⟩) (.slice none 0 0) (.int .i64 0) K9.out (Nat.le_refl _) (H9.out)
      have y0' := FB.c 0 rfl
      have y1' := FB.c 1 rfl
      have y2' := FB.c 2 rfl
      have y3' := FB.c 3 rfl
      simp only [List.foldl, World.setCells, Nat.zero_add, Nat.reduceAdd] at y0' y1' y2' y3'
      have HFK : Hid _ := FK
      have HFO : Hid _ := FO
      have HFS : Hid _ := FS
      clear FK FB FO FS
      have rr0 := (H9.out).c 0 rfl
      have rr1 := (H9.out).c 1 rfl
      have rr2 := (H9.out).c 2 rfl
      have rr3 := (H9.out).c 3 rfl
      have rf0 := (H9.out).f 0 rfl
      have rf1 := (H9.out).f 1 rfl
      have rf2 := (H9.out).f 2 rfl
      have rf3 := (H9.out).f 3 rfl
      have hrw' := (H9.out).1
      go_wp2
      refine bodyPost_ret (v := .agg #[.int .i64 0, .string ⟨#[]⟩, .slice none 0 0, .int .i64 0]) (by simp [results, Tryd.results18, go_sem, y0', y1', y2', y3']) rfl ⟨HFK.out, by rw [HR9.out]; exact ⟨by decide, (HF6.out.off HFO.out HFS.out (by omega) (by omega) (by omega)).mono (by omega), _, _, _, _, _, _, rfl⟩⟩
    · have HR8 : Hid _ := HRR.out
      rw [if_neg h20] at HR8
      have HIn : Hid _ := rinner_ok g b cap T l0 q d (by omega) r.2.2 W1 S1.out
      clear HRR
      go_wp2_with fail
      refine Calls.mono HIn.out ?_
      rintro e W3 ⟨rfl, hk3, hr3⟩
      have hz3 : w.heap.size + 1 ≤ W3.heap.size := by have := hk3.size; omega
      obtain ⟨B, hB⟩ : ∃ B, B = W3.heap.size := ⟨_, rfl⟩
      have X3 : Hid (BS W3 [(W3.heap.size, [.int .i64 6, .string ⟨#[]⟩, .slice none 0 0, .int .i64 r.2.2])] (W3.alloc (.cells #[.int .i64 6, .string ⟨#[]⟩, .slice none 0 0, .int .i64 r.2.2] 30))) := (BS.start W3).new [.int .i64 6, .string ⟨#[]⟩, .slice none 0 0, .int .i64 r.2.2] 30 rfl
      have X4 : Hid (Kp g w (W3.alloc (.cells #[.int .i64 6, .string ⟨#[]⟩, .slice none 0 0, .int .i64 r.2.2] 30)) ∧ Bx (W3.alloc (.cells #[.int .i64 6, .string ⟨#[]⟩, .slice none 0 0, .int .i64 r.2.2] 30)) w.heap.size [.int .i64 0, .string ⟨#[]⟩, .slice none 0 0, .int .i64 0] ∧ Bx (W3.alloc (.cells #[.int .i64 6, .string ⟨#[]⟩, .slice none 0 0, .int .i64 r.2.2] 30)) B [.int .i64 6, .string ⟨#[]⟩, .slice none 0 0, .int .i64 r.2.2] ∧ RS g b cap T (W3.alloc (.cells #[.int .i64 6, .string ⟨#[]⟩, .slice none 0 0, .int .i64 r.2.2] 30)) (q :: l0) (d + 1)) := ⟨(K1.out.trans hk3).alloc _, (hk3.bx H1.out (by omega)).alloc _, by rw [hB]; exact X3.out.first, hr3.below X3.out.1⟩
      have hBw : w.heap.size + 1 ≤ B := by omega
      have hBg : B ≠ g := by omega
      go_upto_region 15 with fail
      rw [← hB]
      refine gen_to (fun V => Kp g w V ∧ Bx V w.heap.size [.int .i64 0, .string ⟨#[]⟩, .slice none 0 0, .int .i64 0] ∧ Bx V B [.int .i64 6, .string ⟨#[]⟩, .slice none 0 0, .int .i64 r.2.2] ∧ RS g b cap T V (q :: l0) (d + 1)) X4.out ?_
      clear X3 X4 hk3 hr3 K1 H1 S1 HIn hB
      intro W5 hW5
      have KK : Hid (Kp g w W5 ∧ Bx W5 w.heap.size [.int .i64 0, .string ⟨#[]⟩, .slice none 0 0, .int .i64 0] ∧ Bx W5 B [.int .i64 6, .string ⟨#[]⟩, .slice none 0 0, .int .i64 r.2.2] ∧ RS g b cap T W5 (q :: l0) (d + 1)) := hW5
      clear hW5
      have HC := HB.out
      have hN1 : (q :: l0).length ≤ N - 1 := by simp only [List.length_cons] at hN ⊢; omega
      have hf1 : need (.lv 6) (mL (q :: l0)) ≤ f := by simp only [need, mL_len]; omega
      have HCC : Hid (∀ V : World, RS g b cap T V (q :: l0) (d + 1) → Calls Tryd.prog 18 #[.pointer (some ⟨g, 0, none⟩), .int .i64 6] V fun e w' => Kp g V w' ∧ ROut g b V.heap.size cap T (fun c => V.heap.size ≤ c) w' (d + 1) e (par f (.lv 6) (d + 1) (mL (q :: l0)))) := fun V hV => HC V _ (d + 1) f hV HE1.out (by omega) hN1 hf1
      clear HC
      cases hr : par f (.lv 6) (d + 1) (mL (q :: l0)) with
      | no ea er =>
        rw [hr] at HCC
        have HR9 : Hid (R = .no ea er) := by have := HR8.out; rw [hr] at this; exact this.symm
        clear hr HR8
        refine wp_region_held_drew (S := fun _ => True) (by kernel_rfl) trivial (fun hHeld => ?_)
        refine gen_anyR (fun V => Kp g w V ∧ Bx V w.heap.size [.int .i64 0, .string ⟨#[]⟩, .slice none 0 0, .int .i64 0] ∧ Bx V B [.int .i64 6, .string ⟨#[]⟩, .slice none 0 0, .int .i64 r.2.2] ∧ RS g b cap T V (q :: l0) (d + 1)) ⟨KK.out.1.drew, KK.out.2.1, KK.out.2.2.1, KK.out.2.2.2.drew⟩ ?_
        clear hHeld KK
        intro W6 hW6
        have KK : Hid (Kp g w W6 ∧ Bx W6 w.heap.size [.int .i64 0, .string ⟨#[]⟩, .slice none 0 0, .int .i64 0] ∧ Bx W6 B [.int .i64 6, .string ⟨#[]⟩, .slice none 0 0, .int .i64 r.2.2] ∧ RS g b cap T W6 (q :: l0) (d + 1)) := hW6
        clear hW6
        have hHeld : True := trivial
        refine wpAnyH_take (i := 0) (v := ?_) (oi := { dst := some 51, op := _, type := _, pos := _, after := _, guard := none }) rfl (by kernel_rfl) (by kernel_rfl) (by kernel_rfl) (fun _ _ _ h => h) (Or.inl ⟨by kernel_rfl, ?_⟩) (by assumption) ?_
        case refine_2 => (intro w9 hSw; clear hSw; go_simp; try with_reducible rfl)
        simp only [Act.put, List.setIfInBounds_toArray, List.set_cons_zero, List.set_cons_succ]
        refine wpAnyH_take (i := 2) (v := ?_) (oi := { dst := some 53, op := _, type := _, pos := _, after := _, guard := none }) rfl (by kernel_rfl) (by kernel_rfl) (by kernel_rfl) (fun _ _ _ h => h) (Or.inl ⟨by kernel_rfl, ?_⟩) (by assumption) ?_
        case refine_2 => (intro w9 hSw; clear hSw; go_simp; try with_reducible rfl)
        simp only [Act.put, List.setIfInBounds_toArray, List.set_cons_zero, List.set_cons_succ]
        refine wpAnyH_take (i := 3) (v := ?_) (oi := { dst := some 54, op := _, type := _, pos := _, after := _, guard := none }) rfl (by kernel_rfl) (by kernel_rfl) (by kernel_rfl) (fun _ _ _ h => h) (Or.inl ⟨by kernel_rfl, ?_⟩) (by assumption) ?_
        case refine_2 => (intro w9 hSw; clear hSw; go_simp; try with_reducible rfl)
        simp only [Act.put, List.setIfInBounds_toArray, List.set_cons_zero, List.set_cons_succ]
        refine wpAnyH_ready (rs := [1, 4]) (by kernel_rfl) (by simp) (AllReadyH.cons (o := { dst := some 52, op := _, type := _, pos := _, after := _, guard := none }) rfl (fun K hK => ?_) (AllReadyH.cons (o := { dst := some 55, op := _, type := _, pos := _, after := _, guard := none }) rfl (fun K hK => ?_) AllReadyH.nil))
        ·
          have q0 := KK.out.2.2.1.c 2 rfl
          have q9 := KK.out.2.2.1.1
          go_simp
          refine hK.out _ _ trivial (fun hHeld => ?_)
          clear hK K q0 q9
          refine wpAnyH_ready (rs := [4]) (by kernel_rfl) (by simp) (AllReadyH.cons (o := { dst := some 55, op := _, type := _, pos := _, after := _, guard := none }) rfl (fun K hK => ?_) AllReadyH.nil)
          go_simp
          refine (HCC.out _ KK.out.2.2.2).mono ?_
          have hq9 := KK.out.2.2.1.1
          rintro e v2 ⟨hk2, her, hf, k9, u9, sq9, sn9, sc9, a9, rfl⟩
          refine hK.out _ _ trivial (fun hHeld => ?_)
          have HER : Hid (er ≠ 0) := her
          replace KK : Hid (Kp g w v2 ∧ Bx v2 w.heap.size [.int .i64 0, .string ⟨#[]⟩, .slice none 0 0, .int .i64 0] ∧ Bx v2 B [.int .i64 6, .string ⟨#[]⟩, .slice none 0 0, .int .i64 r.2.2] ∧ RF g b (B + 1) v2 ea er) := ⟨KK.out.1.trans hk2, hk2.bx KK.out.2.1 (by omega), hk2.bx KK.out.2.2.1 hBg, hf.mono (by omega)⟩
          clear hK K hk2 hf her hq9
          refine wpAnyH_ready (rs := [5]) (by kernel_rfl) (by simp) (AllReadyH.cons (o := { dst := some 56, op := _, type := _, pos := _, after := _, guard := none }) rfl (fun K hK => ?_) AllReadyH.nil)
          have hwB := KK.out.2.2.1.1
          go_simp
          refine hK.out _ _ trivial (fun hHeld => ?_)
          obtain ⟨BR, hBR⟩ : ∃ BR, BR = v2.heap.size := ⟨_, rfl⟩
          have BN : Hid (BS v2 [(v2.heap.size, [.int .i64 k9, .string u9, .slice sq9 sn9 sc9, .int .i64 a9])] (v2.alloc (.cells #[.int .i64 k9, .string u9, .slice sq9 sn9 sc9, .int .i64 a9] 30))) := (BS.start v2).new [.int .i64 k9, .string u9, .slice sq9 sn9 sc9, .int .i64 a9] 30 rfl
          have KN : Hid ((Kp g w (v2.alloc (.cells #[.int .i64 k9, .string u9, .slice sq9 sn9 sc9, .int .i64 a9] 30)) ∧ Bx (v2.alloc (.cells #[.int .i64 k9, .string u9, .slice sq9 sn9 sc9, .int .i64 a9] 30)) w.heap.size [.int .i64 0, .string ⟨#[]⟩, .slice none 0 0, .int .i64 0] ∧ Bx (v2.alloc (.cells #[.int .i64 k9, .string u9, .slice sq9 sn9 sc9, .int .i64 a9] 30)) B [.int .i64 6, .string ⟨#[]⟩, .slice none 0 0, .int .i64 r.2.2] ∧ RF g b (B + 1) (v2.alloc (.cells #[.int .i64 k9, .string u9, .slice sq9 sn9 sc9, .int .i64 a9] 30)) ea er) ∧ Bx (v2.alloc (.cells #[.int .i64 k9, .string u9, .slice sq9 sn9 sc9, .int .i64 a9] 30)) BR [.int .i64 k9, .string u9, .slice sq9 sn9 sc9, .int .i64 a9]) := ⟨⟨KK.out.1.alloc _, KK.out.2.1.alloc _, KK.out.2.2.1.alloc _, KK.out.2.2.2.below BN.out.1⟩, by rw [hBR]; exact BN.out.first⟩
          refine gen_anyR (fun V' => (Kp g w V' ∧ Bx V' w.heap.size [.int .i64 0, .string ⟨#[]⟩, .slice none 0 0, .int .i64 0] ∧ Bx V' B [.int .i64 6, .string ⟨#[]⟩, .slice none 0 0, .int .i64 r.2.2] ∧ RF g b (B + 1) V' ea er) ∧ Bx V' BR [.int .i64 k9, .string u9, .slice sq9 sn9 sc9, .int .i64 a9]) KN.out ?_
          have hBR1 : B < BR := by omega
          rw [← hBR]
          clear hHeld hK K KN BN hBR hwB KK
          rintro v3 ⟨kk1, kk2⟩
          have KK : Hid (Kp g w v3 ∧ Bx v3 w.heap.size [.int .i64 0, .string ⟨#[]⟩, .slice none 0 0, .int .i64 0] ∧ Bx v3 B [.int .i64 6, .string ⟨#[]⟩, .slice none 0 0, .int .i64 r.2.2] ∧ RF g b (B + 1) v3 ea er) := kk1
          have HRW : Hid (Bx v3 BR [.int .i64 k9, .string u9, .slice sq9 sn9 sc9, .int .i64 a9]) := kk2
          clear kk1 kk2
          have hHeld : True := trivial
          refine wpAnyH_ready (rs := [6]) (by kernel_rfl) (by simp) (AllReadyH.cons (o := { dst := some 57, op := _, type := _, pos := _, after := _, guard := none }) rfl (fun K hK => ?_) AllReadyH.nil)
          refine (if_pos (by kernel_rfl)).mpr (wp_append_new _ _ 28 rfl v3.heap.size 30 i0 (.agg #[.int .i64 0, .string ByteArray.empty, .slice none 0 0, .int .i64 0]) 4 56 Tryd.underlying28 hi0 iz0 iz1 iz2 rfl (by decide) (.slice none 0 0) 0 [] rfl (World.ownsRow_nil _ _ _ _) ⟨BR, 0, none⟩ 1 [.int .i64 k9, .string u9, .slice sq9 sn9 sc9, .int .i64 a9] rfl rfl (fun j u hj => by rw [show (⟨BR, 0, none⟩ : Addr).add j = ⟨BR, j, none⟩ from by rw [Addr.add_lit]; simp]; exact (HRW.out.2 j u hj).1) (by intro u hu; simp at hu; rcases hu with rfl | rfl | rfl | rfl <;> rfl) (by unfold maxLen; omega) (by omega) (Nat.le_refl _) ?_)
          intro v' w4 hown' hgrow hnew
          obtain ⟨sq', sn', sc', hv'⟩ := own_form hown'
          subst hv'
          have hgb : Below _ _ w4 := grown_below hgrow
          have HO : Hid (w4.ownsRow v3.heap.size 30 4 (.slice sq' sn' sc') 1 [.int .i64 k9, .string u9, .slice sq9 sn9 sc9, .int .i64 a9]) := hown'
          have hBV : B < v3.heap.size := KK.out.2.2.1.1
          have K4 : Hid (Kp g w w4 ∧ Bx w4 w.heap.size [.int .i64 0, .string ⟨#[]⟩, .slice none 0 0, .int .i64 0] ∧ Bx w4 B [.int .i64 6, .string ⟨#[]⟩, .slice none 0 0, .int .i64 r.2.2] ∧ RF g b (B + 1) w4 ea er) := ⟨KK.out.1.trans (Kp.of hgb), KK.out.2.1.below hgb, KK.out.2.2.1.below hgb, KK.out.2.2.2.below hgb⟩
          refine hK.out _ _ trivial (fun hHeld => ?_)
          clear hK K hown' hgrow hnew hgb KK HRW
          refine wpAnyH_take (i := 7) (v := ?_) (oi := { dst := some 58, op := _, type := _, pos := _, after := _, guard := none }) rfl (by kernel_rfl) (by kernel_rfl) (by kernel_rfl) (fun _ _ _ h => h) (Or.inl ⟨by kernel_rfl, ?_⟩) (by assumption) ?_
          case refine_2 => (intro w9 hSw; clear hSw; go_simp; try with_reducible rfl)
          simp only [Act.put, List.setIfInBounds_toArray, List.set_cons_zero, List.set_cons_succ]
          refine wpAnyH_ready (rs := [8]) (by kernel_rfl) (by simp) (AllReadyH.cons (o := { dst := none, op := _, type := _, pos := _, after := _, guard := none }) rfl (fun K hK => ?_) AllReadyH.nil)
          have hoff : ∀ c, c < w4.heap.size → c ≠ B → (w4.setCell ⟨B, 2, none⟩ (.slice sq' sn' sc')).heap[c]? = w4.heap[c]? := fun c _ hc => Below.heap_setCell _ _ _ _ hc
          have K7 : Hid (Kp g w (w4.setCell ⟨B, 2, none⟩ (.slice sq' sn' sc')) ∧ Bx (w4.setCell ⟨B, 2, none⟩ (.slice sq' sn' sc')) w.heap.size [.int .i64 0, .string ⟨#[]⟩, .slice none 0 0, .int .i64 0] ∧ Bx (w4.setCell ⟨B, 2, none⟩ (.slice sq' sn' sc')) B [.int .i64 6, .string ⟨#[]⟩, .slice sq' sn' sc', .int .i64 r.2.2] ∧ RF g b (B + 1) (w4.setCell ⟨B, 2, none⟩ (.slice sq' sn' sc')) ea er) := ⟨K4.out.1.set (p := ⟨B, 2, none⟩) (.inr (by show _ ≤ B; omega)) _, K4.out.2.1.setOther (by omega) [_] 2, K4.out.2.2.1.set1 2 _ (by simp), K4.out.2.2.2.off (r := B) hoff (by simp) (by omega) (by omega) (by omega)⟩
          have z2 := K4.out.2.2.1.f 2 rfl
          have c2 := K4.out.2.2.1.c 2 rfl
          have hB4 := K4.out.2.2.1.1
          go_simp
          refine hK.out _ _ trivial (fun hHeld => ?_)
          refine gen_anyR (fun V => Kp g w V ∧ Bx V w.heap.size [.int .i64 0, .string ⟨#[]⟩, .slice none 0 0, .int .i64 0] ∧ Bx V B [.int .i64 6, .string ⟨#[]⟩, .slice sq' sn' sc', .int .i64 r.2.2] ∧ RF g b (B + 1) V ea er) K7.out ?_
          clear hK K z2 c2 hB4 K7 K4 HO hoff hHeld
          intro v5 hv7
          have KK : Hid (Kp g w v5 ∧ Bx v5 w.heap.size [.int .i64 0, .string ⟨#[]⟩, .slice none 0 0, .int .i64 0] ∧ Bx v5 B [.int .i64 6, .string ⟨#[]⟩, .slice sq' sn' sc', .int .i64 r.2.2] ∧ RF g b (B + 1) v5 ea er) := hv7
          clear hv7
          have hHeld : True := trivial
          refine wpAnyH_done (by kernel_rfl) ?_ _
          obtain ⟨c9, o9, n9, m9, D9, i9, z9, t9, hc9, hb9, -⟩ := KK.out.2.2.2
          have cg1 := hb9.c 1 rfl
          have fg1 := hb9.f 1 rfl
          have hgl := hb9.1
          clear hb9 hc9
          go_upto_region 17 with fail
          refine gen_to (fun V => Kp g w V ∧ Bx V w.heap.size [.int .i64 0, .string ⟨#[]⟩, .slice none 0 0, .int .i64 0] ∧ RF g b (B + 1) V ea er ∧ Bx V B [.int .i64 6, .string ⟨#[]⟩, .slice sq' sn' sc', .int .i64 r.2.2]) (rdeep_bad hg KK.out.1 KK.out.2.1 (by omega) KK.out.2.2.2 KK.out.2.2.1 hBg) ?_
          rintro W8 ⟨k8, h8, f8, t8⟩
          have HK5 : Hid (Kp g w W8) := k8
          have HH5 : Hid (Bx W8 w.heap.size [.int .i64 0, .string ⟨#[]⟩, .slice none 0 0, .int .i64 0]) := h8
          have HF5 : Hid (RF g b (B + 1) W8 ea er) := f8
          have l0' := t8.c 0 rfl
          have l1' := t8.c 1 rfl
          have l2' := t8.c 2 rfl
          have l3' := t8.c 3 rfl
          have hl' := t8.1
          clear k8 h8 f8 t8 cg1 fg1 hgl KK hHeld
          obtain ⟨FK, FB, FO, FS⟩ := fin4 [] (.int .i64 6) (.string ⟨#[]⟩) (.slice sq' sn' sc') (.int .i64 r.2.2) HK5.out (Nat.le_refl _) (HH5.out)
          have y0' := FB.c 0 rfl
          have y1' := FB.c 1 rfl
          have y2' := FB.c 2 rfl
          have y3' := FB.c 3 rfl
          simp only [List.foldl, World.setCells, Nat.zero_add, Nat.reduceAdd] at y0' y1' y2' y3'
          have HFK : Hid _ := FK
          have HFO : Hid _ := FO
          have HFS : Hid _ := FS
          clear FK FB FO FS
          have rr0 := (HH5.out).c 0 rfl
          have rr1 := (HH5.out).c 1 rfl
          have rr2 := (HH5.out).c 2 rfl
          have rr3 := (HH5.out).c 3 rfl
          have rf0 := (HH5.out).f 0 rfl
          have rf1 := (HH5.out).f 1 rfl
          have rf2 := (HH5.out).f 2 rfl
          have rf3 := (HH5.out).f 3 rfl
          have hrw' := (HH5.out).1
          go_wp2
          refine bodyPost_ret (v := .agg #[.int .i64 6, .string ⟨#[]⟩, .slice sq' sn' sc', .int .i64 r.2.2]) (by simp [results, Tryd.results18, go_sem, y0', y1', y2', y3']) rfl ⟨HFK.out, by rw [HR9.out]; exact ⟨HER.out, (HF5.out.off HFO.out HFS.out (by omega) (by omega) (by omega)).mono (by omega), _, _, _, _, _, _, rfl⟩⟩
        ·
          go_simp
          refine (HCC.out _ KK.out.2.2.2).mono ?_
          have hq9 := KK.out.2.2.1.1
          rintro e v6 ⟨hk6, her, hf, k9, u9, sq9, sn9, sc9, a9, rfl⟩
          refine hK.out _ _ trivial (fun hHeld => ?_)
          have HER : Hid (er ≠ 0) := her
          replace KK : Hid (Kp g w v6 ∧ Bx v6 w.heap.size [.int .i64 0, .string ⟨#[]⟩, .slice none 0 0, .int .i64 0] ∧ Bx v6 B [.int .i64 6, .string ⟨#[]⟩, .slice none 0 0, .int .i64 r.2.2] ∧ RF g b (B + 1) v6 ea er) := ⟨KK.out.1.trans hk6, hk6.bx KK.out.2.1 (by omega), hk6.bx KK.out.2.2.1 hBg, hf.mono (by omega)⟩
          clear hK K hk6 hf her hq9
          refine wpAnyH_ready (rs := [1, 5]) (by kernel_rfl) (by simp) (AllReadyH.cons (o := { dst := some 52, op := _, type := _, pos := _, after := _, guard := none }) rfl (fun K hK => ?_) (AllReadyH.cons (o := { dst := some 56, op := _, type := _, pos := _, after := _, guard := none }) rfl (fun K hK => ?_) AllReadyH.nil))
          ·
            have q0 := KK.out.2.2.1.c 2 rfl
            have q9 := KK.out.2.2.1.1
            go_simp
            refine hK.out _ _ trivial (fun hHeld => ?_)
            clear hK K q0 q9
            refine wpAnyH_ready (rs := [5]) (by kernel_rfl) (by simp) (AllReadyH.cons (o := { dst := some 56, op := _, type := _, pos := _, after := _, guard := none }) rfl (fun K hK => ?_) AllReadyH.nil)
            have hwB := KK.out.2.2.1.1
            go_simp
            refine hK.out _ _ trivial (fun hHeld => ?_)
            obtain ⟨BR, hBR⟩ : ∃ BR, BR = v6.heap.size := ⟨_, rfl⟩
            have BN : Hid (BS v6 [(v6.heap.size, [.int .i64 k9, .string u9, .slice sq9 sn9 sc9, .int .i64 a9])] (v6.alloc (.cells #[.int .i64 k9, .string u9, .slice sq9 sn9 sc9, .int .i64 a9] 30))) := (BS.start v6).new [.int .i64 k9, .string u9, .slice sq9 sn9 sc9, .int .i64 a9] 30 rfl
            have KN : Hid ((Kp g w (v6.alloc (.cells #[.int .i64 k9, .string u9, .slice sq9 sn9 sc9, .int .i64 a9] 30)) ∧ Bx (v6.alloc (.cells #[.int .i64 k9, .string u9, .slice sq9 sn9 sc9, .int .i64 a9] 30)) w.heap.size [.int .i64 0, .string ⟨#[]⟩, .slice none 0 0, .int .i64 0] ∧ Bx (v6.alloc (.cells #[.int .i64 k9, .string u9, .slice sq9 sn9 sc9, .int .i64 a9] 30)) B [.int .i64 6, .string ⟨#[]⟩, .slice none 0 0, .int .i64 r.2.2] ∧ RF g b (B + 1) (v6.alloc (.cells #[.int .i64 k9, .string u9, .slice sq9 sn9 sc9, .int .i64 a9] 30)) ea er) ∧ Bx (v6.alloc (.cells #[.int .i64 k9, .string u9, .slice sq9 sn9 sc9, .int .i64 a9] 30)) BR [.int .i64 k9, .string u9, .slice sq9 sn9 sc9, .int .i64 a9]) := ⟨⟨KK.out.1.alloc _, KK.out.2.1.alloc _, KK.out.2.2.1.alloc _, KK.out.2.2.2.below BN.out.1⟩, by rw [hBR]; exact BN.out.first⟩
            refine gen_anyR (fun V' => (Kp g w V' ∧ Bx V' w.heap.size [.int .i64 0, .string ⟨#[]⟩, .slice none 0 0, .int .i64 0] ∧ Bx V' B [.int .i64 6, .string ⟨#[]⟩, .slice none 0 0, .int .i64 r.2.2] ∧ RF g b (B + 1) V' ea er) ∧ Bx V' BR [.int .i64 k9, .string u9, .slice sq9 sn9 sc9, .int .i64 a9]) KN.out ?_
            have hBR1 : B < BR := by omega
            rw [← hBR]
            clear hHeld hK K KN BN hBR hwB KK
            rintro v8 ⟨kk1, kk2⟩
            have KK : Hid (Kp g w v8 ∧ Bx v8 w.heap.size [.int .i64 0, .string ⟨#[]⟩, .slice none 0 0, .int .i64 0] ∧ Bx v8 B [.int .i64 6, .string ⟨#[]⟩, .slice none 0 0, .int .i64 r.2.2] ∧ RF g b (B + 1) v8 ea er) := kk1
            have HRW : Hid (Bx v8 BR [.int .i64 k9, .string u9, .slice sq9 sn9 sc9, .int .i64 a9]) := kk2
            clear kk1 kk2
            have hHeld : True := trivial
            refine wpAnyH_ready (rs := [6]) (by kernel_rfl) (by simp) (AllReadyH.cons (o := { dst := some 57, op := _, type := _, pos := _, after := _, guard := none }) rfl (fun K hK => ?_) AllReadyH.nil)
            refine (if_pos (by kernel_rfl)).mpr (wp_append_new _ _ 28 rfl v8.heap.size 30 i0 (.agg #[.int .i64 0, .string ByteArray.empty, .slice none 0 0, .int .i64 0]) 4 56 Tryd.underlying28 hi0 iz0 iz1 iz2 rfl (by decide) (.slice none 0 0) 0 [] rfl (World.ownsRow_nil _ _ _ _) ⟨BR, 0, none⟩ 1 [.int .i64 k9, .string u9, .slice sq9 sn9 sc9, .int .i64 a9] rfl rfl (fun j u hj => by rw [show (⟨BR, 0, none⟩ : Addr).add j = ⟨BR, j, none⟩ from by rw [Addr.add_lit]; simp]; exact (HRW.out.2 j u hj).1) (by intro u hu; simp at hu; rcases hu with rfl | rfl | rfl | rfl <;> rfl) (by unfold maxLen; omega) (by omega) (Nat.le_refl _) ?_)
            intro v' w4 hown' hgrow hnew
            obtain ⟨sq', sn', sc', hv'⟩ := own_form hown'
            subst hv'
            have hgb : Below _ _ w4 := grown_below hgrow
            have HO : Hid (w4.ownsRow v8.heap.size 30 4 (.slice sq' sn' sc') 1 [.int .i64 k9, .string u9, .slice sq9 sn9 sc9, .int .i64 a9]) := hown'
            have hBV : B < v8.heap.size := KK.out.2.2.1.1
            have K4 : Hid (Kp g w w4 ∧ Bx w4 w.heap.size [.int .i64 0, .string ⟨#[]⟩, .slice none 0 0, .int .i64 0] ∧ Bx w4 B [.int .i64 6, .string ⟨#[]⟩, .slice none 0 0, .int .i64 r.2.2] ∧ RF g b (B + 1) w4 ea er) := ⟨KK.out.1.trans (Kp.of hgb), KK.out.2.1.below hgb, KK.out.2.2.1.below hgb, KK.out.2.2.2.below hgb⟩
            refine hK.out _ _ trivial (fun hHeld => ?_)
            clear hK K hown' hgrow hnew hgb KK HRW
            refine wpAnyH_take (i := 7) (v := ?_) (oi := { dst := some 58, op := _, type := _, pos := _, after := _, guard := none }) rfl (by kernel_rfl) (by kernel_rfl) (by kernel_rfl) (fun _ _ _ h => h) (Or.inl ⟨by kernel_rfl, ?_⟩) (by assumption) ?_
            case refine_2 => (intro w9 hSw; clear hSw; go_simp; try with_reducible rfl)
            simp only [Act.put, List.setIfInBounds_toArray, List.set_cons_zero, List.set_cons_succ]
            refine wpAnyH_ready (rs := [8]) (by kernel_rfl) (by simp) (AllReadyH.cons (o := { dst := none, op := _, type := _, pos := _, after := _, guard := none }) rfl (fun K hK => ?_) AllReadyH.nil)
            have hoff : ∀ c, c < w4.heap.size → c ≠ B → (w4.setCell ⟨B, 2, none⟩ (.slice sq' sn' sc')).heap[c]? = w4.heap[c]? := fun c _ hc => Below.heap_setCell _ _ _ _ hc
            have K7 : Hid (Kp g w (w4.setCell ⟨B, 2, none⟩ (.slice sq' sn' sc')) ∧ Bx (w4.setCell ⟨B, 2, none⟩ (.slice sq' sn' sc')) w.heap.size [.int .i64 0, .string ⟨#[]⟩, .slice none 0 0, .int .i64 0] ∧ Bx (w4.setCell ⟨B, 2, none⟩ (.slice sq' sn' sc')) B [.int .i64 6, .string ⟨#[]⟩, .slice sq' sn' sc', .int .i64 r.2.2] ∧ RF g b (B + 1) (w4.setCell ⟨B, 2, none⟩ (.slice sq' sn' sc')) ea er) := ⟨K4.out.1.set (p := ⟨B, 2, none⟩) (.inr (by show _ ≤ B; omega)) _, K4.out.2.1.setOther (by omega) [_] 2, K4.out.2.2.1.set1 2 _ (by simp), K4.out.2.2.2.off (r := B) hoff (by simp) (by omega) (by omega) (by omega)⟩
            have z2 := K4.out.2.2.1.f 2 rfl
            have c2 := K4.out.2.2.1.c 2 rfl
            have hB4 := K4.out.2.2.1.1
            go_simp
            refine hK.out _ _ trivial (fun hHeld => ?_)
            refine gen_anyR (fun V => Kp g w V ∧ Bx V w.heap.size [.int .i64 0, .string ⟨#[]⟩, .slice none 0 0, .int .i64 0] ∧ Bx V B [.int .i64 6, .string ⟨#[]⟩, .slice sq' sn' sc', .int .i64 r.2.2] ∧ RF g b (B + 1) V ea er) K7.out ?_
            clear hK K z2 c2 hB4 K7 K4 HO hoff hHeld
            intro v10 hv7
            have KK : Hid (Kp g w v10 ∧ Bx v10 w.heap.size [.int .i64 0, .string ⟨#[]⟩, .slice none 0 0, .int .i64 0] ∧ Bx v10 B [.int .i64 6, .string ⟨#[]⟩, .slice sq' sn' sc', .int .i64 r.2.2] ∧ RF g b (B + 1) v10 ea er) := hv7
            clear hv7
            have hHeld : True := trivial
            refine wpAnyH_done (by kernel_rfl) ?_ _
            obtain ⟨c9, o9, n9, m9, D9, i9, z9, t9, hc9, hb9, -⟩ := KK.out.2.2.2
            have cg1 := hb9.c 1 rfl
            have fg1 := hb9.f 1 rfl
            have hgl := hb9.1
            clear hb9 hc9
            go_upto_region 17 with fail
            refine gen_to (fun V => Kp g w V ∧ Bx V w.heap.size [.int .i64 0, .string ⟨#[]⟩, .slice none 0 0, .int .i64 0] ∧ RF g b (B + 1) V ea er ∧ Bx V B [.int .i64 6, .string ⟨#[]⟩, .slice sq' sn' sc', .int .i64 r.2.2]) (rdeep_bad hg KK.out.1 KK.out.2.1 (by omega) KK.out.2.2.2 KK.out.2.2.1 hBg) ?_
            rintro W8 ⟨k8, h8, f8, t8⟩
            have HK5 : Hid (Kp g w W8) := k8
            have HH5 : Hid (Bx W8 w.heap.size [.int .i64 0, .string ⟨#[]⟩, .slice none 0 0, .int .i64 0]) := h8
            have HF5 : Hid (RF g b (B + 1) W8 ea er) := f8
            have l0' := t8.c 0 rfl
            have l1' := t8.c 1 rfl
            have l2' := t8.c 2 rfl
            have l3' := t8.c 3 rfl
            have hl' := t8.1
            clear k8 h8 f8 t8 cg1 fg1 hgl KK hHeld
            obtain ⟨FK, FB, FO, FS⟩ := fin4 [] (.int .i64 6) (.string ⟨#[]⟩) (.slice sq' sn' sc') (.int .i64 r.2.2) HK5.out (Nat.le_refl _) (HH5.out)
            have y0' := FB.c 0 rfl
            have y1' := FB.c 1 rfl
            have y2' := FB.c 2 rfl
            have y3' := FB.c 3 rfl
            simp only [List.foldl, World.setCells, Nat.zero_add, Nat.reduceAdd] at y0' y1' y2' y3'
            have HFK : Hid _ := FK
            have HFO : Hid _ := FO
            have HFS : Hid _ := FS
            clear FK FB FO FS
            have rr0 := (HH5.out).c 0 rfl
            have rr1 := (HH5.out).c 1 rfl
            have rr2 := (HH5.out).c 2 rfl
            have rr3 := (HH5.out).c 3 rfl
            have rf0 := (HH5.out).f 0 rfl
            have rf1 := (HH5.out).f 1 rfl
            have rf2 := (HH5.out).f 2 rfl
            have rf3 := (HH5.out).f 3 rfl
            have hrw' := (HH5.out).1
            go_wp2
            refine bodyPost_ret (v := .agg #[.int .i64 6, .string ⟨#[]⟩, .slice sq' sn' sc', .int .i64 r.2.2]) (by simp [results, Tryd.results18, go_sem, y0', y1', y2', y3']) rfl ⟨HFK.out, by rw [HR9.out]; exact ⟨HER.out, (HF5.out.off HFO.out HFS.out (by omega) (by omega) (by omega)).mono (by omega), _, _, _, _, _, _, rfl⟩⟩
          ·
            have hwB := KK.out.2.2.1.1
            go_simp
            refine hK.out _ _ trivial (fun hHeld => ?_)
            obtain ⟨BR, hBR⟩ : ∃ BR, BR = v6.heap.size := ⟨_, rfl⟩
            have BN : Hid (BS v6 [(v6.heap.size, [.int .i64 k9, .string u9, .slice sq9 sn9 sc9, .int .i64 a9])] (v6.alloc (.cells #[.int .i64 k9, .string u9, .slice sq9 sn9 sc9, .int .i64 a9] 30))) := (BS.start v6).new [.int .i64 k9, .string u9, .slice sq9 sn9 sc9, .int .i64 a9] 30 rfl
            have KN : Hid ((Kp g w (v6.alloc (.cells #[.int .i64 k9, .string u9, .slice sq9 sn9 sc9, .int .i64 a9] 30)) ∧ Bx (v6.alloc (.cells #[.int .i64 k9, .string u9, .slice sq9 sn9 sc9, .int .i64 a9] 30)) w.heap.size [.int .i64 0, .string ⟨#[]⟩, .slice none 0 0, .int .i64 0] ∧ Bx (v6.alloc (.cells #[.int .i64 k9, .string u9, .slice sq9 sn9 sc9, .int .i64 a9] 30)) B [.int .i64 6, .string ⟨#[]⟩, .slice none 0 0, .int .i64 r.2.2] ∧ RF g b (B + 1) (v6.alloc (.cells #[.int .i64 k9, .string u9, .slice sq9 sn9 sc9, .int .i64 a9] 30)) ea er) ∧ Bx (v6.alloc (.cells #[.int .i64 k9, .string u9, .slice sq9 sn9 sc9, .int .i64 a9] 30)) BR [.int .i64 k9, .string u9, .slice sq9 sn9 sc9, .int .i64 a9]) := ⟨⟨KK.out.1.alloc _, KK.out.2.1.alloc _, KK.out.2.2.1.alloc _, KK.out.2.2.2.below BN.out.1⟩, by rw [hBR]; exact BN.out.first⟩
            refine gen_anyR (fun V' => (Kp g w V' ∧ Bx V' w.heap.size [.int .i64 0, .string ⟨#[]⟩, .slice none 0 0, .int .i64 0] ∧ Bx V' B [.int .i64 6, .string ⟨#[]⟩, .slice none 0 0, .int .i64 r.2.2] ∧ RF g b (B + 1) V' ea er) ∧ Bx V' BR [.int .i64 k9, .string u9, .slice sq9 sn9 sc9, .int .i64 a9]) KN.out ?_
            have hBR1 : B < BR := by omega
            rw [← hBR]
            clear hHeld hK K KN BN hBR hwB KK
            rintro v11 ⟨kk1, kk2⟩
            have KK : Hid (Kp g w v11 ∧ Bx v11 w.heap.size [.int .i64 0, .string ⟨#[]⟩, .slice none 0 0, .int .i64 0] ∧ Bx v11 B [.int .i64 6, .string ⟨#[]⟩, .slice none 0 0, .int .i64 r.2.2] ∧ RF g b (B + 1) v11 ea er) := kk1
            have HRW : Hid (Bx v11 BR [.int .i64 k9, .string u9, .slice sq9 sn9 sc9, .int .i64 a9]) := kk2
            clear kk1 kk2
            have hHeld : True := trivial
            refine wpAnyH_ready (rs := [1]) (by kernel_rfl) (by simp) (AllReadyH.cons (o := { dst := some 52, op := _, type := _, pos := _, after := _, guard := none }) rfl (fun K hK => ?_) AllReadyH.nil)
            have q0 := KK.out.2.2.1.c 2 rfl
            have q9 := KK.out.2.2.1.1
            go_simp
            refine hK.out _ _ trivial (fun hHeld => ?_)
            clear hK K q0 q9
            refine wpAnyH_ready (rs := [6]) (by kernel_rfl) (by simp) (AllReadyH.cons (o := { dst := some 57, op := _, type := _, pos := _, after := _, guard := none }) rfl (fun K hK => ?_) AllReadyH.nil)
            refine (if_pos (by kernel_rfl)).mpr (wp_append_new _ _ 28 rfl v11.heap.size 30 i0 (.agg #[.int .i64 0, .string ByteArray.empty, .slice none 0 0, .int .i64 0]) 4 56 Tryd.underlying28 hi0 iz0 iz1 iz2 rfl (by decide) (.slice none 0 0) 0 [] rfl (World.ownsRow_nil _ _ _ _) ⟨BR, 0, none⟩ 1 [.int .i64 k9, .string u9, .slice sq9 sn9 sc9, .int .i64 a9] rfl rfl (fun j u hj => by rw [show (⟨BR, 0, none⟩ : Addr).add j = ⟨BR, j, none⟩ from by rw [Addr.add_lit]; simp]; exact (HRW.out.2 j u hj).1) (by intro u hu; simp at hu; rcases hu with rfl | rfl | rfl | rfl <;> rfl) (by unfold maxLen; omega) (by omega) (Nat.le_refl _) ?_)
            intro v' w4 hown' hgrow hnew
            obtain ⟨sq', sn', sc', hv'⟩ := own_form hown'
            subst hv'
            have hgb : Below _ _ w4 := grown_below hgrow
            have HO : Hid (w4.ownsRow v11.heap.size 30 4 (.slice sq' sn' sc') 1 [.int .i64 k9, .string u9, .slice sq9 sn9 sc9, .int .i64 a9]) := hown'
            have hBV : B < v11.heap.size := KK.out.2.2.1.1
            have K4 : Hid (Kp g w w4 ∧ Bx w4 w.heap.size [.int .i64 0, .string ⟨#[]⟩, .slice none 0 0, .int .i64 0] ∧ Bx w4 B [.int .i64 6, .string ⟨#[]⟩, .slice none 0 0, .int .i64 r.2.2] ∧ RF g b (B + 1) w4 ea er) := ⟨KK.out.1.trans (Kp.of hgb), KK.out.2.1.below hgb, KK.out.2.2.1.below hgb, KK.out.2.2.2.below hgb⟩
            refine hK.out _ _ trivial (fun hHeld => ?_)
            clear hK K hown' hgrow hnew hgb KK HRW
            refine wpAnyH_take (i := 7) (v := ?_) (oi := { dst := some 58, op := _, type := _, pos := _, after := _, guard := none }) rfl (by kernel_rfl) (by kernel_rfl) (by kernel_rfl) (fun _ _ _ h => h) (Or.inl ⟨by kernel_rfl, ?_⟩) (by assumption) ?_
            case refine_2 => (intro w9 hSw; clear hSw; go_simp; try with_reducible rfl)
            simp only [Act.put, List.setIfInBounds_toArray, List.set_cons_zero, List.set_cons_succ]
            refine wpAnyH_ready (rs := [8]) (by kernel_rfl) (by simp) (AllReadyH.cons (o := { dst := none, op := _, type := _, pos := _, after := _, guard := none }) rfl (fun K hK => ?_) AllReadyH.nil)
            have hoff : ∀ c, c < w4.heap.size → c ≠ B → (w4.setCell ⟨B, 2, none⟩ (.slice sq' sn' sc')).heap[c]? = w4.heap[c]? := fun c _ hc => Below.heap_setCell _ _ _ _ hc
            have K7 : Hid (Kp g w (w4.setCell ⟨B, 2, none⟩ (.slice sq' sn' sc')) ∧ Bx (w4.setCell ⟨B, 2, none⟩ (.slice sq' sn' sc')) w.heap.size [.int .i64 0, .string ⟨#[]⟩, .slice none 0 0, .int .i64 0] ∧ Bx (w4.setCell ⟨B, 2, none⟩ (.slice sq' sn' sc')) B [.int .i64 6, .string ⟨#[]⟩, .slice sq' sn' sc', .int .i64 r.2.2] ∧ RF g b (B + 1) (w4.setCell ⟨B, 2, none⟩ (.slice sq' sn' sc')) ea er) := ⟨K4.out.1.set (p := ⟨B, 2, none⟩) (.inr (by show _ ≤ B; omega)) _, K4.out.2.1.setOther (by omega) [_] 2, K4.out.2.2.1.set1 2 _ (by simp), K4.out.2.2.2.off (r := B) hoff (by simp) (by omega) (by omega) (by omega)⟩
            have z2 := K4.out.2.2.1.f 2 rfl
            have c2 := K4.out.2.2.1.c 2 rfl
            have hB4 := K4.out.2.2.1.1
            go_simp
            refine hK.out _ _ trivial (fun hHeld => ?_)
            refine gen_anyR (fun V => Kp g w V ∧ Bx V w.heap.size [.int .i64 0, .string ⟨#[]⟩, .slice none 0 0, .int .i64 0] ∧ Bx V B [.int .i64 6, .string ⟨#[]⟩, .slice sq' sn' sc', .int .i64 r.2.2] ∧ RF g b (B + 1) V ea er) K7.out ?_
            clear hK K z2 c2 hB4 K7 K4 HO hoff hHeld
            intro v14 hv7
            have KK : Hid (Kp g w v14 ∧ Bx v14 w.heap.size [.int .i64 0, .string ⟨#[]⟩, .slice none 0 0, .int .i64 0] ∧ Bx v14 B [.int .i64 6, .string ⟨#[]⟩, .slice sq' sn' sc', .int .i64 r.2.2] ∧ RF g b (B + 1) v14 ea er) := hv7
            clear hv7
            have hHeld : True := trivial
            refine wpAnyH_done (by kernel_rfl) ?_ _
            obtain ⟨c9, o9, n9, m9, D9, i9, z9, t9, hc9, hb9, -⟩ := KK.out.2.2.2
            have cg1 := hb9.c 1 rfl
            have fg1 := hb9.f 1 rfl
            have hgl := hb9.1
            clear hb9 hc9
            go_upto_region 17 with fail
            refine gen_to (fun V => Kp g w V ∧ Bx V w.heap.size [.int .i64 0, .string ⟨#[]⟩, .slice none 0 0, .int .i64 0] ∧ RF g b (B + 1) V ea er ∧ Bx V B [.int .i64 6, .string ⟨#[]⟩, .slice sq' sn' sc', .int .i64 r.2.2]) (rdeep_bad hg KK.out.1 KK.out.2.1 (by omega) KK.out.2.2.2 KK.out.2.2.1 hBg) ?_
            rintro W8 ⟨k8, h8, f8, t8⟩
            have HK5 : Hid (Kp g w W8) := k8
            have HH5 : Hid (Bx W8 w.heap.size [.int .i64 0, .string ⟨#[]⟩, .slice none 0 0, .int .i64 0]) := h8
            have HF5 : Hid (RF g b (B + 1) W8 ea er) := f8
            have l0' := t8.c 0 rfl
            have l1' := t8.c 1 rfl
            have l2' := t8.c 2 rfl
            have l3' := t8.c 3 rfl
            have hl' := t8.1
            clear k8 h8 f8 t8 cg1 fg1 hgl KK hHeld
            obtain ⟨FK, FB, FO, FS⟩ := fin4 [] (.int .i64 6) (.string ⟨#[]⟩) (.slice sq' sn' sc') (.int .i64 r.2.2) HK5.out (Nat.le_refl _) (HH5.out)
            have y0' := FB.c 0 rfl
            have y1' := FB.c 1 rfl
            have y2' := FB.c 2 rfl
            have y3' := FB.c 3 rfl
            simp only [List.foldl, World.setCells, Nat.zero_add, Nat.reduceAdd] at y0' y1' y2' y3'
            have HFK : Hid _ := FK
            have HFO : Hid _ := FO
            have HFS : Hid _ := FS
            clear FK FB FO FS
            have rr0 := (HH5.out).c 0 rfl
            have rr1 := (HH5.out).c 1 rfl
            have rr2 := (HH5.out).c 2 rfl
            have rr3 := (HH5.out).c 3 rfl
            have rf0 := (HH5.out).f 0 rfl
            have rf1 := (HH5.out).f 1 rfl
            have rf2 := (HH5.out).f 2 rfl
            have rf3 := (HH5.out).f 3 rfl
            have hrw' := (HH5.out).1
            go_wp2
            refine bodyPost_ret (v := .agg #[.int .i64 6, .string ⟨#[]⟩, .slice sq' sn' sc', .int .i64 r.2.2]) (by simp [results, Tryd.results18, go_sem, y0', y1', y2', y3']) rfl ⟨HFK.out, by rw [HR9.out]; exact ⟨HER.out, (HF5.out.off HFO.out HFS.out (by omega) (by omega) (by omega)).mono (by omega), _, _, _, _, _, _, rfl⟩⟩
      | ok n l1 =>
        rw [hr] at HCC
        have HR9 : Hid (R = .ok (.mk 6 ByteArray.empty [n] r.2.2) l1) := by have := HR8.out; rw [hr] at this; exact this.symm
        clear hr HR8
        refine wp_region_held_drew (S := fun _ => True) (by kernel_rfl) trivial (fun hHeld => ?_)
        refine gen_anyR (fun V => Kp g w V ∧ Bx V w.heap.size [.int .i64 0, .string ⟨#[]⟩, .slice none 0 0, .int .i64 0] ∧ Bx V B [.int .i64 6, .string ⟨#[]⟩, .slice none 0 0, .int .i64 r.2.2] ∧ RS g b cap T V (q :: l0) (d + 1)) ⟨KK.out.1.drew, KK.out.2.1, KK.out.2.2.1, KK.out.2.2.2.drew⟩ ?_
        clear hHeld KK
        intro W6 hW6
        have KK : Hid (Kp g w W6 ∧ Bx W6 w.heap.size [.int .i64 0, .string ⟨#[]⟩, .slice none 0 0, .int .i64 0] ∧ Bx W6 B [.int .i64 6, .string ⟨#[]⟩, .slice none 0 0, .int .i64 r.2.2] ∧ RS g b cap T W6 (q :: l0) (d + 1)) := hW6
        clear hW6
        have hHeld : True := trivial
        refine wpAnyH_take (i := 0) (v := ?_) (oi := { dst := some 51, op := _, type := _, pos := _, after := _, guard := none }) rfl (by kernel_rfl) (by kernel_rfl) (by kernel_rfl) (fun _ _ _ h => h) (Or.inl ⟨by kernel_rfl, ?_⟩) (by assumption) ?_
        case refine_2 => (intro w9 hSw; clear hSw; go_simp; try with_reducible rfl)
        simp only [Act.put, List.setIfInBounds_toArray, List.set_cons_zero, List.set_cons_succ]
        refine wpAnyH_take (i := 2) (v := ?_) (oi := { dst := some 53, op := _, type := _, pos := _, after := _, guard := none }) rfl (by kernel_rfl) (by kernel_rfl) (by kernel_rfl) (fun _ _ _ h => h) (Or.inl ⟨by kernel_rfl, ?_⟩) (by assumption) ?_
        case refine_2 => (intro w9 hSw; clear hSw; go_simp; try with_reducible rfl)
        simp only [Act.put, List.setIfInBounds_toArray, List.set_cons_zero, List.set_cons_succ]
        refine wpAnyH_take (i := 3) (v := ?_) (oi := { dst := some 54, op := _, type := _, pos := _, after := _, guard := none }) rfl (by kernel_rfl) (by kernel_rfl) (by kernel_rfl) (fun _ _ _ h => h) (Or.inl ⟨by kernel_rfl, ?_⟩) (by assumption) ?_
        case refine_2 => (intro w9 hSw; clear hSw; go_simp; try with_reducible rfl)
        simp only [Act.put, List.setIfInBounds_toArray, List.set_cons_zero, List.set_cons_succ]
        refine wpAnyH_ready (rs := [1, 4]) (by kernel_rfl) (by simp) (AllReadyH.cons (o := { dst := some 52, op := _, type := _, pos := _, after := _, guard := none }) rfl (fun K hK => ?_) (AllReadyH.cons (o := { dst := some 55, op := _, type := _, pos := _, after := _, guard := none }) rfl (fun K hK => ?_) AllReadyH.nil))
        ·
          have q0 := KK.out.2.2.1.c 2 rfl
          have q9 := KK.out.2.2.1.1
          go_simp
          refine hK.out _ _ trivial (fun hHeld => ?_)
          clear hK K q0 q9
          refine wpAnyH_ready (rs := [4]) (by kernel_rfl) (by simp) (AllReadyH.cons (o := { dst := some 55, op := _, type := _, pos := _, after := _, guard := none }) rfl (fun K hK => ?_) AllReadyH.nil)
          go_simp
          refine (HCC.out _ KK.out.2.2.2).mono ?_
          have hq9 := KK.out.2.2.1.1
          rintro e v2 ⟨hk2, L1, hl2, hrs, hend, k9, u9, sq9, sn9, sc9, a9, rfl, hnd⟩
          refine hK.out _ _ trivial (fun hHeld => ?_)
          subst hl2
          replace KK : Hid (Kp g w v2 ∧ Bx v2 w.heap.size [.int .i64 0, .string ⟨#[]⟩, .slice none 0 0, .int .i64 0] ∧ Bx v2 B [.int .i64 6, .string ⟨#[]⟩, .slice none 0 0, .int .i64 r.2.2] ∧ RS g b cap T v2 L1 (d + 1) ∧ EndL (mL L1) ∧ NdAt (fun c => B < c) v2 n [.int .i64 k9, .string u9, .slice sq9 sn9 sc9, .int .i64 a9]) := ⟨KK.out.1.trans hk2, hk2.bx KK.out.2.1 (by omega), hk2.bx KK.out.2.2.1 hBg, hrs, hend, NdAt.keep (Nat.le_refl _) (fun c hc _ => ⟨by omega, rfl⟩) _ _ hnd⟩
          clear hK K hk2 hrs hend hnd hq9
          refine wpAnyH_ready (rs := [5]) (by kernel_rfl) (by simp) (AllReadyH.cons (o := { dst := some 56, op := _, type := _, pos := _, after := _, guard := none }) rfl (fun K hK => ?_) AllReadyH.nil)
          have hwB := KK.out.2.2.1.1
          go_simp
          refine hK.out _ _ trivial (fun hHeld => ?_)
          obtain ⟨BR, hBR⟩ : ∃ BR, BR = v2.heap.size := ⟨_, rfl⟩
          have BN : Hid (BS v2 [(v2.heap.size, [.int .i64 k9, .string u9, .slice sq9 sn9 sc9, .int .i64 a9])] (v2.alloc (.cells #[.int .i64 k9, .string u9, .slice sq9 sn9 sc9, .int .i64 a9] 30))) := (BS.start v2).new [.int .i64 k9, .string u9, .slice sq9 sn9 sc9, .int .i64 a9] 30 rfl
          have KN : Hid ((Kp g w (v2.alloc (.cells #[.int .i64 k9, .string u9, .slice sq9 sn9 sc9, .int .i64 a9] 30)) ∧ Bx (v2.alloc (.cells #[.int .i64 k9, .string u9, .slice sq9 sn9 sc9, .int .i64 a9] 30)) w.heap.size [.int .i64 0, .string ⟨#[]⟩, .slice none 0 0, .int .i64 0] ∧ Bx (v2.alloc (.cells #[.int .i64 k9, .string u9, .slice sq9 sn9 sc9, .int .i64 a9] 30)) B [.int .i64 6, .string ⟨#[]⟩, .slice none 0 0, .int .i64 r.2.2] ∧ RS g b cap T (v2.alloc (.cells #[.int .i64 k9, .string u9, .slice sq9 sn9 sc9, .int .i64 a9] 30)) L1 (d + 1) ∧ EndL (mL L1) ∧ NdAt (fun c => B < c) (v2.alloc (.cells #[.int .i64 k9, .string u9, .slice sq9 sn9 sc9, .int .i64 a9] 30)) n [.int .i64 k9, .string u9, .slice sq9 sn9 sc9, .int .i64 a9]) ∧ Bx (v2.alloc (.cells #[.int .i64 k9, .string u9, .slice sq9 sn9 sc9, .int .i64 a9] 30)) BR [.int .i64 k9, .string u9, .slice sq9 sn9 sc9, .int .i64 a9]) := ⟨⟨KK.out.1.alloc _, KK.out.2.1.alloc _, KK.out.2.2.1.alloc _, KK.out.2.2.2.1.below BN.out.1, KK.out.2.2.2.2.1, KK.out.2.2.2.2.2.below BN.out.1⟩, by rw [hBR]; exact BN.out.first⟩
          refine gen_anyR (fun V' => (Kp g w V' ∧ Bx V' w.heap.size [.int .i64 0, .string ⟨#[]⟩, .slice none 0 0, .int .i64 0] ∧ Bx V' B [.int .i64 6, .string ⟨#[]⟩, .slice none 0 0, .int .i64 r.2.2] ∧ RS g b cap T V' L1 (d + 1) ∧ EndL (mL L1) ∧ NdAt (fun c => B < c) V' n [.int .i64 k9, .string u9, .slice sq9 sn9 sc9, .int .i64 a9]) ∧ Bx V' BR [.int .i64 k9, .string u9, .slice sq9 sn9 sc9, .int .i64 a9]) KN.out ?_
          have hBR1 : B < BR := by omega
          rw [← hBR]
          clear hHeld hK K KN BN hBR hwB KK
          rintro v3 ⟨kk1, kk2⟩
          have KK : Hid (Kp g w v3 ∧ Bx v3 w.heap.size [.int .i64 0, .string ⟨#[]⟩, .slice none 0 0, .int .i64 0] ∧ Bx v3 B [.int .i64 6, .string ⟨#[]⟩, .slice none 0 0, .int .i64 r.2.2] ∧ RS g b cap T v3 L1 (d + 1) ∧ EndL (mL L1) ∧ NdAt (fun c => B < c) v3 n [.int .i64 k9, .string u9, .slice sq9 sn9 sc9, .int .i64 a9]) := kk1
          have HRW : Hid (Bx v3 BR [.int .i64 k9, .string u9, .slice sq9 sn9 sc9, .int .i64 a9]) := kk2
          clear kk1 kk2
          have hHeld : True := trivial
          refine wpAnyH_ready (rs := [6]) (by kernel_rfl) (by simp) (AllReadyH.cons (o := { dst := some 57, op := _, type := _, pos := _, after := _, guard := none }) rfl (fun K hK => ?_) AllReadyH.nil)
          refine (if_pos (by kernel_rfl)).mpr (wp_append_new _ _ 28 rfl v3.heap.size 30 i0 (.agg #[.int .i64 0, .string ByteArray.empty, .slice none 0 0, .int .i64 0]) 4 56 Tryd.underlying28 hi0 iz0 iz1 iz2 rfl (by decide) (.slice none 0 0) 0 [] rfl (World.ownsRow_nil _ _ _ _) ⟨BR, 0, none⟩ 1 [.int .i64 k9, .string u9, .slice sq9 sn9 sc9, .int .i64 a9] rfl rfl (fun j u hj => by rw [show (⟨BR, 0, none⟩ : Addr).add j = ⟨BR, j, none⟩ from by rw [Addr.add_lit]; simp]; exact (HRW.out.2 j u hj).1) (by intro u hu; simp at hu; rcases hu with rfl | rfl | rfl | rfl <;> rfl) (by unfold maxLen; omega) (by omega) (Nat.le_refl _) ?_)
          intro v' w4 hown' hgrow hnew
          obtain ⟨sq', sn', sc', hv'⟩ := own_form hown'
          subst hv'
          have hgb : Below _ _ w4 := grown_below hgrow
          have HO : Hid (w4.ownsRow v3.heap.size 30 4 (.slice sq' sn' sc') 1 [.int .i64 k9, .string u9, .slice sq9 sn9 sc9, .int .i64 a9]) := hown'
          have hBV : B < v3.heap.size := KK.out.2.2.1.1
          have K4 : Hid (Kp g w w4 ∧ Bx w4 w.heap.size [.int .i64 0, .string ⟨#[]⟩, .slice none 0 0, .int .i64 0] ∧ Bx w4 B [.int .i64 6, .string ⟨#[]⟩, .slice none 0 0, .int .i64 r.2.2] ∧ RS g b cap T w4 L1 (d + 1) ∧ EndL (mL L1) ∧ NdAt (fun c => B < c) w4 n [.int .i64 k9, .string u9, .slice sq9 sn9 sc9, .int .i64 a9]) := ⟨KK.out.1.trans (Kp.of hgb), KK.out.2.1.below hgb, KK.out.2.2.1.below hgb, KK.out.2.2.2.1.below hgb, KK.out.2.2.2.2.1, KK.out.2.2.2.2.2.below hgb⟩
          refine hK.out _ _ trivial (fun hHeld => ?_)
          clear hK K hown' hgrow hnew hgb KK HRW
          refine wpAnyH_take (i := 7) (v := ?_) (oi := { dst := some 58, op := _, type := _, pos := _, after := _, guard := none }) rfl (by kernel_rfl) (by kernel_rfl) (by kernel_rfl) (fun _ _ _ h => h) (Or.inl ⟨by kernel_rfl, ?_⟩) (by assumption) ?_
          case refine_2 => (intro w9 hSw; clear hSw; go_simp; try with_reducible rfl)
          simp only [Act.put, List.setIfInBounds_toArray, List.set_cons_zero, List.set_cons_succ]
          refine wpAnyH_ready (rs := [8]) (by kernel_rfl) (by simp) (AllReadyH.cons (o := { dst := none, op := _, type := _, pos := _, after := _, guard := none }) rfl (fun K hK => ?_) AllReadyH.nil)
          obtain ⟨R1, cp1, hv1, hc1, hc2, hR1, hR2, hRw⟩ := row_one HO.out K4.out.2.2.2.2.2
          obtain ⟨rfl, rfl, rfl⟩ : sq' = some ⟨R1, 0, none⟩ ∧ sn' = 1 ∧ sc' = cp1 := by cases hv1; exact ⟨rfl, rfl, rfl⟩
          have hn7 : NdAt (fun c => B < c) w4 (.mk 6 ByteArray.empty [n] r.2.2) [.int .i64 6, .string ⟨#[]⟩, .slice (some ⟨R1, 0, none⟩) 1 sc', .int .i64 r.2.2] := NdAt.row (ks := [n]) (by simp) hc1 hc2 (by omega) hR2 hRw
          have hoff : ∀ c, c < w4.heap.size → c ≠ B → (w4.setCell ⟨B, 2, none⟩ (.slice (some ⟨R1, 0, none⟩) 1 sc')).heap[c]? = w4.heap[c]? := fun c _ hc => Below.heap_setCell _ _ _ _ hc
          have K7 : Hid (Kp g w (w4.setCell ⟨B, 2, none⟩ (.slice (some ⟨R1, 0, none⟩) 1 sc')) ∧ Bx (w4.setCell ⟨B, 2, none⟩ (.slice (some ⟨R1, 0, none⟩) 1 sc')) w.heap.size [.int .i64 0, .string ⟨#[]⟩, .slice none 0 0, .int .i64 0] ∧ Bx (w4.setCell ⟨B, 2, none⟩ (.slice (some ⟨R1, 0, none⟩) 1 sc')) B [.int .i64 6, .string ⟨#[]⟩, .slice (some ⟨R1, 0, none⟩) 1 sc', .int .i64 r.2.2] ∧ RS g b cap T (w4.setCell ⟨B, 2, none⟩ (.slice (some ⟨R1, 0, none⟩) 1 sc')) L1 (d + 1) ∧ EndL (mL L1) ∧ NdAt (fun c => B < c) (w4.setCell ⟨B, 2, none⟩ (.slice (some ⟨R1, 0, none⟩) 1 sc')) (.mk 6 ByteArray.empty [n] r.2.2) [.int .i64 6, .string ⟨#[]⟩, .slice (some ⟨R1, 0, none⟩) 1 sc', .int .i64 r.2.2]) := ⟨K4.out.1.set (p := ⟨B, 2, none⟩) (.inr (by show _ ≤ B; omega)) _, K4.out.2.1.setOther (by omega) [_] 2, K4.out.2.2.1.set1 2 _ (by simp), K4.out.2.2.2.1.off (r := B) hoff (by simp) (by omega) (by omega), K4.out.2.2.2.2.1, hn7.off (r := B) hoff (by simp) (fun c hc => ⟨hc, by omega⟩)⟩
          have z2 := K4.out.2.2.1.f 2 rfl
          have c2 := K4.out.2.2.1.c 2 rfl
          have hB4 := K4.out.2.2.1.1
          go_simp
          refine hK.out _ _ trivial (fun hHeld => ?_)
          refine gen_anyR (fun V => Kp g w V ∧ Bx V w.heap.size [.int .i64 0, .string ⟨#[]⟩, .slice none 0 0, .int .i64 0] ∧ Bx V B [.int .i64 6, .string ⟨#[]⟩, .slice (some ⟨R1, 0, none⟩) 1 sc', .int .i64 r.2.2] ∧ RS g b cap T V L1 (d + 1) ∧ EndL (mL L1) ∧ NdAt (fun c => B < c) V (.mk 6 ByteArray.empty [n] r.2.2) [.int .i64 6, .string ⟨#[]⟩, .slice (some ⟨R1, 0, none⟩) 1 sc', .int .i64 r.2.2]) K7.out ?_
          clear hK K z2 c2 hB4 K7 K4 HO hoff hHeld hn7 hRw hv1
          intro v5 hv7
          have KK : Hid (Kp g w v5 ∧ Bx v5 w.heap.size [.int .i64 0, .string ⟨#[]⟩, .slice none 0 0, .int .i64 0] ∧ Bx v5 B [.int .i64 6, .string ⟨#[]⟩, .slice (some ⟨R1, 0, none⟩) 1 sc', .int .i64 r.2.2] ∧ RS g b cap T v5 L1 (d + 1) ∧ EndL (mL L1) ∧ NdAt (fun c => B < c) v5 (.mk 6 ByteArray.empty [n] r.2.2) [.int .i64 6, .string ⟨#[]⟩, .slice (some ⟨R1, 0, none⟩) 1 sc', .int .i64 r.2.2]) := hv7
          clear hv7
          have hHeld : True := trivial
          refine wpAnyH_done (by kernel_rfl) ?_ _
          obtain ⟨⟨pre4, pa4, he4, hb4⟩, -⟩ := KK.out.2.2.2.1
          have cg1 := hb4.c 1 rfl
          have fg1 := hb4.f 1 rfl
          have hgl := hb4.1
          clear hb4 he4
          have hdw : IntKind.i64.wrap ((d : Int) + 1 - 1) = (d : Int) := by rw [IntKind.wrap_i64]; omega
          have hdw2 : IntKind.i64.wrap (d : Int) = (d : Int) := by rw [IntKind.wrap_i64]; omega
          go_upto_region 17 with fail
          refine gen_to (fun V => Kp g w V ∧ Bx V w.heap.size [.int .i64 0, .string ⟨#[]⟩, .slice none 0 0, .int .i64 0] ∧ RS g b cap T V L1 d ∧ Bx V B [.int .i64 6, .string ⟨#[]⟩, .slice (some ⟨R1, 0, none⟩) 1 sc', .int .i64 r.2.2] ∧ NdAt (fun c => B < c) V (.mk 6 ByteArray.empty [n] r.2.2) [.int .i64 6, .string ⟨#[]⟩, .slice (some ⟨R1, 0, none⟩) 1 sc', .int .i64 r.2.2]) (rdeep_ok hg KK.out.1 KK.out.2.1 (by omega) KK.out.2.2.2.1 KK.out.2.2.1 hBg KK.out.2.2.2.2.2 (fun c hc => by omega)) ?_
          have HE5 : Hid (EndL (mL L1)) := KK.out.2.2.2.2.1
          rintro W8 ⟨k8, h8, s8, t8, n8⟩
          have HK5 : Hid (Kp g w W8) := k8
          have HH5 : Hid (Bx W8 w.heap.size [.int .i64 0, .string ⟨#[]⟩, .slice none 0 0, .int .i64 0]) := h8
          have HS5 : Hid (RS g b cap T W8 L1 d) := s8
          have HN5 : Hid (NdAt (fun c => B < c) W8 (.mk 6 ByteArray.empty [n] r.2.2) [.int .i64 6, .string ⟨#[]⟩, .slice (some ⟨R1, 0, none⟩) 1 sc', .int .i64 r.2.2]) := n8
          have l0' := t8.c 0 rfl
          have l1' := t8.c 1 rfl
          have l2' := t8.c 2 rfl
          have l3' := t8.c 3 rfl
          have hl' := t8.1
          clear k8 h8 s8 t8 n8 cg1 fg1 hgl KK hHeld
          obtain ⟨FK, FB, FO, FS⟩ := fin4 [] (.int .i64 6) (.string ⟨#[]⟩) (.slice (some ⟨R1, 0, none⟩) 1 sc') (.int .i64 r.2.2) HK5.out (Nat.le_refl _) (HH5.out)
          have y0' := FB.c 0 rfl
          have y1' := FB.c 1 rfl
          have y2' := FB.c 2 rfl
          have y3' := FB.c 3 rfl
          simp only [List.foldl, World.setCells, Nat.zero_add, Nat.reduceAdd] at y0' y1' y2' y3'
          have HFK : Hid _ := FK
          have HFO : Hid _ := FO
          have HFS : Hid _ := FS
          clear FK FB FO FS
          have rr0 := (HH5.out).c 0 rfl
          have rr1 := (HH5.out).c 1 rfl
          have rr2 := (HH5.out).c 2 rfl
          have rr3 := (HH5.out).c 3 rfl
          have rf0 := (HH5.out).f 0 rfl
          have rf1 := (HH5.out).f 1 rfl
          have rf2 := (HH5.out).f 2 rfl
          have rf3 := (HH5.out).f 3 rfl
          have hrw' := (HH5.out).1
          go_wp2
          refine bodyPost_ret (v := .agg #[.int .i64 6, .string ⟨#[]⟩, .slice (some ⟨R1, 0, none⟩) 1 sc', .int .i64 r.2.2]) (by simp [results, Tryd.results18, go_sem, y0', y1', y2', y3']) rfl ⟨HFK.out, by rw [HR9.out]; exact ⟨L1, rfl, HS5.out.off HFO.out HFS.out (by omega) (by omega), HE5.out, _, _, _, _, _, _, rfl, HN5.out.off HFO.out HFS.out (fun c hc => ⟨by omega, by omega⟩)⟩⟩
        ·
          go_simp
          refine (HCC.out _ KK.out.2.2.2).mono ?_
          have hq9 := KK.out.2.2.1.1
          rintro e v6 ⟨hk6, L1, hl6, hrs, hend, k9, u9, sq9, sn9, sc9, a9, rfl, hnd⟩
          refine hK.out _ _ trivial (fun hHeld => ?_)
          subst hl6
          replace KK : Hid (Kp g w v6 ∧ Bx v6 w.heap.size [.int .i64 0, .string ⟨#[]⟩, .slice none 0 0, .int .i64 0] ∧ Bx v6 B [.int .i64 6, .string ⟨#[]⟩, .slice none 0 0, .int .i64 r.2.2] ∧ RS g b cap T v6 L1 (d + 1) ∧ EndL (mL L1) ∧ NdAt (fun c => B < c) v6 n [.int .i64 k9, .string u9, .slice sq9 sn9 sc9, .int .i64 a9]) := ⟨KK.out.1.trans hk6, hk6.bx KK.out.2.1 (by omega), hk6.bx KK.out.2.2.1 hBg, hrs, hend, NdAt.keep (Nat.le_refl _) (fun c hc _ => ⟨by omega, rfl⟩) _ _ hnd⟩
          clear hK K hk6 hrs hend hnd hq9
          refine wpAnyH_ready (rs := [1, 5]) (by kernel_rfl) (by simp) (AllReadyH.cons (o := { dst := some 52, op := _, type := _, pos := _, after := _, guard := none }) rfl (fun K hK => ?_) (AllReadyH.cons (o := { dst := some 56, op := _, type := _, pos := _, after := _, guard := none }) rfl (fun K hK => ?_) AllReadyH.nil))
          ·
            have q0 := KK.out.2.2.1.c 2 rfl
            have q9 := KK.out.2.2.1.1
            go_simp
            refine hK.out _ _ trivial (fun hHeld => ?_)
            clear hK K q0 q9
            refine wpAnyH_ready (rs := [5]) (by kernel_rfl) (by simp) (AllReadyH.cons (o := { dst := some 56, op := _, type := _, pos := _, after := _, guard := none }) rfl (fun K hK => ?_) AllReadyH.nil)
            have hwB := KK.out.2.2.1.1
            go_simp
            refine hK.out _ _ trivial (fun hHeld => ?_)
            obtain ⟨BR, hBR⟩ : ∃ BR, BR = v6.heap.size := ⟨_, rfl⟩
            have BN : Hid (BS v6 [(v6.heap.size, [.int .i64 k9, .string u9, .slice sq9 sn9 sc9, .int .i64 a9])] (v6.alloc (.cells #[.int .i64 k9, .string u9, .slice sq9 sn9 sc9, .int .i64 a9] 30))) := (BS.start v6).new [.int .i64 k9, .string u9, .slice sq9 sn9 sc9, .int .i64 a9] 30 rfl
            have KN : Hid ((Kp g w (v6.alloc (.cells #[.int .i64 k9, .string u9, .slice sq9 sn9 sc9, .int .i64 a9] 30)) ∧ Bx (v6.alloc (.cells #[.int .i64 k9, .string u9, .slice sq9 sn9 sc9, .int .i64 a9] 30)) w.heap.size [.int .i64 0, .string ⟨#[]⟩, .slice none 0 0, .int .i64 0] ∧ Bx (v6.alloc (.cells #[.int .i64 k9, .string u9, .slice sq9 sn9 sc9, .int .i64 a9] 30)) B [.int .i64 6, .string ⟨#[]⟩, .slice none 0 0, .int .i64 r.2.2] ∧ RS g b cap T (v6.alloc (.cells #[.int .i64 k9, .string u9, .slice sq9 sn9 sc9, .int .i64 a9] 30)) L1 (d + 1) ∧ EndL (mL L1) ∧ NdAt (fun c => B < c) (v6.alloc (.cells #[.int .i64 k9, .string u9, .slice sq9 sn9 sc9, .int .i64 a9] 30)) n [.int .i64 k9, .string u9, .slice sq9 sn9 sc9, .int .i64 a9]) ∧ Bx (v6.alloc (.cells #[.int .i64 k9, .string u9, .slice sq9 sn9 sc9, .int .i64 a9] 30)) BR [.int .i64 k9, .string u9, .slice sq9 sn9 sc9, .int .i64 a9]) := ⟨⟨KK.out.1.alloc _, KK.out.2.1.alloc _, KK.out.2.2.1.alloc _, KK.out.2.2.2.1.below BN.out.1, KK.out.2.2.2.2.1, KK.out.2.2.2.2.2.below BN.out.1⟩, by rw [hBR]; exact BN.out.first⟩
            refine gen_anyR (fun V' => (Kp g w V' ∧ Bx V' w.heap.size [.int .i64 0, .string ⟨#[]⟩, .slice none 0 0, .int .i64 0] ∧ Bx V' B [.int .i64 6, .string ⟨#[]⟩, .slice none 0 0, .int .i64 r.2.2] ∧ RS g b cap T V' L1 (d + 1) ∧ EndL (mL L1) ∧ NdAt (fun c => B < c) V' n [.int .i64 k9, .string u9, .slice sq9 sn9 sc9, .int .i64 a9]) ∧ Bx V' BR [.int .i64 k9, .string u9, .slice sq9 sn9 sc9, .int .i64 a9]) KN.out ?_
            have hBR1 : B < BR := by omega
            rw [← hBR]
            clear hHeld hK K KN BN hBR hwB KK
            rintro v8 ⟨kk1, kk2⟩
            have KK : Hid (Kp g w v8 ∧ Bx v8 w.heap.size [.int .i64 0, .string ⟨#[]⟩, .slice none 0 0, .int .i64 0] ∧ Bx v8 B [.int .i64 6, .string ⟨#[]⟩, .slice none 0 0, .int .i64 r.2.2] ∧ RS g b cap T v8 L1 (d + 1) ∧ EndL (mL L1) ∧ NdAt (fun c => B < c) v8 n [.int .i64 k9, .string u9, .slice sq9 sn9 sc9, .int .i64 a9]) := kk1
            have HRW : Hid (Bx v8 BR [.int .i64 k9, .string u9, .slice sq9 sn9 sc9, .int .i64 a9]) := kk2
            clear kk1 kk2
            have hHeld : True := trivial
            refine wpAnyH_ready (rs := [6]) (by kernel_rfl) (by simp) (AllReadyH.cons (o := { dst := some 57, op := _, type := _, pos := _, after := _, guard := none }) rfl (fun K hK => ?_) AllReadyH.nil)
            refine (if_pos (by kernel_rfl)).mpr (wp_append_new _ _ 28 rfl v8.heap.size 30 i0 (.agg #[.int .i64 0, .string ByteArray.empty, .slice none 0 0, .int .i64 0]) 4 56 Tryd.underlying28 hi0 iz0 iz1 iz2 rfl (by decide) (.slice none 0 0) 0 [] rfl (World.ownsRow_nil _ _ _ _) ⟨BR, 0, none⟩ 1 [.int .i64 k9, .string u9, .slice sq9 sn9 sc9, .int .i64 a9] rfl rfl (fun j u hj => by rw [show (⟨BR, 0, none⟩ : Addr).add j = ⟨BR, j, none⟩ from by rw [Addr.add_lit]; simp]; exact (HRW.out.2 j u hj).1) (by intro u hu; simp at hu; rcases hu with rfl | rfl | rfl | rfl <;> rfl) (by unfold maxLen; omega) (by omega) (Nat.le_refl _) ?_)
            intro v' w4 hown' hgrow hnew
            obtain ⟨sq', sn', sc', hv'⟩ := own_form hown'
            subst hv'
            have hgb : Below _ _ w4 := grown_below hgrow
            have HO : Hid (w4.ownsRow v8.heap.size 30 4 (.slice sq' sn' sc') 1 [.int .i64 k9, .string u9, .slice sq9 sn9 sc9, .int .i64 a9]) := hown'
            have hBV : B < v8.heap.size := KK.out.2.2.1.1
            have K4 : Hid (Kp g w w4 ∧ Bx w4 w.heap.size [.int .i64 0, .string ⟨#[]⟩, .slice none 0 0, .int .i64 0] ∧ Bx w4 B [.int .i64 6, .string ⟨#[]⟩, .slice none 0 0, .int .i64 r.2.2] ∧ RS g b cap T w4 L1 (d + 1) ∧ EndL (mL L1) ∧ NdAt (fun c => B < c) w4 n [.int .i64 k9, .string u9, .slice sq9 sn9 sc9, .int .i64 a9]) := ⟨KK.out.1.trans (Kp.of hgb), KK.out.2.1.below hgb, KK.out.2.2.1.below hgb, KK.out.2.2.2.1.below hgb, KK.out.2.2.2.2.1, KK.out.2.2.2.2.2.below hgb⟩
            refine hK.out _ _ trivial (fun hHeld => ?_)
            clear hK K hown' hgrow hnew hgb KK HRW
            refine wpAnyH_take (i := 7) (v := ?_) (oi := { dst := some 58, op := _, type := _, pos := _, after := _, guard := none }) rfl (by kernel_rfl) (by kernel_rfl) (by kernel_rfl) (fun _ _ _ h => h) (Or.inl ⟨by kernel_rfl, ?_⟩) (by assumption) ?_
            case refine_2 => (intro w9 hSw; clear hSw; go_simp; try with_reducible rfl)
            simp only [Act.put, List.setIfInBounds_toArray, List.set_cons_zero, List.set_cons_succ]
            refine wpAnyH_ready (rs := [8]) (by kernel_rfl) (by simp) (AllReadyH.cons (o := { dst := none, op := _, type := _, pos := _, after := _, guard := none }) rfl (fun K hK => ?_) AllReadyH.nil)
            obtain ⟨R1, cp1, hv1, hc1, hc2, hR1, hR2, hRw⟩ := row_one HO.out K4.out.2.2.2.2.2
            obtain ⟨rfl, rfl, rfl⟩ : sq' = some ⟨R1, 0, none⟩ ∧ sn' = 1 ∧ sc' = cp1 := by cases hv1; exact ⟨rfl, rfl, rfl⟩
            have hn7 : NdAt (fun c => B < c) w4 (.mk 6 ByteArray.empty [n] r.2.2) [.int .i64 6, .string ⟨#[]⟩, .slice (some ⟨R1, 0, none⟩) 1 sc', .int .i64 r.2.2] := NdAt.row (ks := [n]) (by simp) hc1 hc2 (by omega) hR2 hRw
            have hoff : ∀ c, c < w4.heap.size → c ≠ B → (w4.setCell ⟨B, 2, none⟩ (.slice (some ⟨R1, 0, none⟩) 1 sc')).heap[c]? = w4.heap[c]? := fun c _ hc => Below.heap_setCell _ _ _ _ hc
            have K7 : Hid (Kp g w (w4.setCell ⟨B, 2, none⟩ (.slice (some ⟨R1, 0, none⟩) 1 sc')) ∧ Bx (w4.setCell ⟨B, 2, none⟩ (.slice (some ⟨R1, 0, none⟩) 1 sc')) w.heap.size [.int .i64 0, .string ⟨#[]⟩, .slice none 0 0, .int .i64 0] ∧ Bx (w4.setCell ⟨B, 2, none⟩ (.slice (some ⟨R1, 0, none⟩) 1 sc')) B [.int .i64 6, .string ⟨#[]⟩, .slice (some ⟨R1, 0, none⟩) 1 sc', .int .i64 r.2.2] ∧ RS g b cap T (w4.setCell ⟨B, 2, none⟩ (.slice (some ⟨R1, 0, none⟩) 1 sc')) L1 (d + 1) ∧ EndL (mL L1) ∧ NdAt (fun c => B < c) (w4.setCell ⟨B, 2, none⟩ (.slice (some ⟨R1, 0, none⟩) 1 sc')) (.mk 6 ByteArray.empty [n] r.2.2) [.int .i64 6, .string ⟨#[]⟩, .slice (some ⟨R1, 0, none⟩) 1 sc', .int .i64 r.2.2]) := ⟨K4.out.1.set (p := ⟨B, 2, none⟩) (.inr (by show _ ≤ B; omega)) _, K4.out.2.1.setOther (by omega) [_] 2, K4.out.2.2.1.set1 2 _ (by simp), K4.out.2.2.2.1.off (r := B) hoff (by simp) (by omega) (by omega), K4.out.2.2.2.2.1, hn7.off (r := B) hoff (by simp) (fun c hc => ⟨hc, by omega⟩)⟩
            have z2 := K4.out.2.2.1.f 2 rfl
            have c2 := K4.out.2.2.1.c 2 rfl
            have hB4 := K4.out.2.2.1.1
            go_simp
            refine hK.out _ _ trivial (fun hHeld => ?_)
            refine gen_anyR (fun V => Kp g w V ∧ Bx V w.heap.size [.int .i64 0, .string ⟨#[]⟩, .slice none 0 0, .int .i64 0] ∧ Bx V B [.int .i64 6, .string ⟨#[]⟩, .slice (some ⟨R1, 0, none⟩) 1 sc', .int .i64 r.2.2] ∧ RS g b cap T V L1 (d + 1) ∧ EndL (mL L1) ∧ NdAt (fun c => B < c) V (.mk 6 ByteArray.empty [n] r.2.2) [.int .i64 6, .string ⟨#[]⟩, .slice (some ⟨R1, 0, none⟩) 1 sc', .int .i64 r.2.2]) K7.out ?_
            clear hK K z2 c2 hB4 K7 K4 HO hoff hHeld hn7 hRw hv1
            intro v10 hv7
            have KK : Hid (Kp g w v10 ∧ Bx v10 w.heap.size [.int .i64 0, .string ⟨#[]⟩, .slice none 0 0, .int .i64 0] ∧ Bx v10 B [.int .i64 6, .string ⟨#[]⟩, .slice (some ⟨R1, 0, none⟩) 1 sc', .int .i64 r.2.2] ∧ RS g b cap T v10 L1 (d + 1) ∧ EndL (mL L1) ∧ NdAt (fun c => B < c) v10 (.mk 6 ByteArray.empty [n] r.2.2) [.int .i64 6, .string ⟨#[]⟩, .slice (some ⟨R1, 0, none⟩) 1 sc', .int .i64 r.2.2]) := hv7
            clear hv7
            have hHeld : True := trivial
            refine wpAnyH_done (by kernel_rfl) ?_ _
            obtain ⟨⟨pre4, pa4, he4, hb4⟩, -⟩ := KK.out.2.2.2.1
            have cg1 := hb4.c 1 rfl
            have fg1 := hb4.f 1 rfl
            have hgl := hb4.1
            clear hb4 he4
            have hdw : IntKind.i64.wrap ((d : Int) + 1 - 1) = (d : Int) := by rw [IntKind.wrap_i64]; omega
            have hdw2 : IntKind.i64.wrap (d : Int) = (d : Int) := by rw [IntKind.wrap_i64]; omega
            go_upto_region 17 with fail
            refine gen_to (fun V => Kp g w V ∧ Bx V w.heap.size [.int .i64 0, .string ⟨#[]⟩, .slice none 0 0, .int .i64 0] ∧ RS g b cap T V L1 d ∧ Bx V B [.int .i64 6, .string ⟨#[]⟩, .slice (some ⟨R1, 0, none⟩) 1 sc', .int .i64 r.2.2] ∧ NdAt (fun c => B < c) V (.mk 6 ByteArray.empty [n] r.2.2) [.int .i64 6, .string ⟨#[]⟩, .slice (some ⟨R1, 0, none⟩) 1 sc', .int .i64 r.2.2]) (rdeep_ok hg KK.out.1 KK.out.2.1 (by omega) KK.out.2.2.2.1 KK.out.2.2.1 hBg KK.out.2.2.2.2.2 (fun c hc => by omega)) ?_
            have HE5 : Hid (EndL (mL L1)) := KK.out.2.2.2.2.1
            rintro W8 ⟨k8, h8, s8, t8, n8⟩
            have HK5 : Hid (Kp g w W8) := k8
            have HH5 : Hid (Bx W8 w.heap.size [.int .i64 0, .string ⟨#[]⟩, .slice none 0 0, .int .i64 0]) := h8
            have HS5 : Hid (RS g b cap T W8 L1 d) := s8
            have HN5 : Hid (NdAt (fun c => B < c) W8 (.mk 6 ByteArray.empty [n] r.2.2) [.int .i64 6, .string ⟨#[]⟩, .slice (some ⟨R1, 0, none⟩) 1 sc', .int .i64 r.2.2]) := n8
            have l0' := t8.c 0 rfl
            have l1' := t8.c 1 rfl
            have l2' := t8.c 2 rfl
            have l3' := t8.c 3 rfl
            have hl' := t8.1
            clear k8 h8 s8 t8 n8 cg1 fg1 hgl KK hHeld
            obtain ⟨FK, FB, FO, FS⟩ := fin4 [] (.int .i64 6) (.string ⟨#[]⟩) (.slice (some ⟨R1, 0, none⟩) 1 sc') (.int .i64 r.2.2) HK5.out (Nat.le_refl _) (HH5.out)
            have y0' := FB.c 0 rfl
            have y1' := FB.c 1 rfl
            have y2' := FB.c 2 rfl
            have y3' := FB.c 3 rfl
            simp only [List.foldl, World.setCells, Nat.zero_add, Nat.reduceAdd] at y0' y1' y2' y3'
            have HFK : Hid _ := FK
            have HFO : Hid _ := FO
            have HFS : Hid _ := FS
            clear FK FB FO FS
            have rr0 := (HH5.out).c 0 rfl
            have rr1 := (HH5.out).c 1 rfl
            have rr2 := (HH5.out).c 2 rfl
            have rr3 := (HH5.out).c 3 rfl
            have rf0 := (HH5.out).f 0 rfl
            have rf1 := (HH5.out).f 1 rfl
            have rf2 := (HH5.out).f 2 rfl
            have rf3 := (HH5.out).f 3 rfl
            have hrw' := (HH5.out).1
            go_wp2
            refine bodyPost_ret (v := .agg #[.int .i64 6, .string ⟨#[]⟩, .slice (some ⟨R1, 0, none⟩) 1 sc', .int .i64 r.2.2]) (by simp [results, Tryd.results18, go_sem, y0', y1', y2', y3']) rfl ⟨HFK.out, by rw [HR9.out]; exact ⟨L1, rfl, HS5.out.off HFO.out HFS.out (by omega) (by omega), HE5.out, _, _, _, _, _, _, rfl, HN5.out.off HFO.out HFS.out (fun c hc => ⟨by omega, by omega⟩)⟩⟩
          ·
            have hwB := KK.out.2.2.1.1
            go_simp
            refine hK.out _ _ trivial (fun hHeld => ?_)
            obtain ⟨BR, hBR⟩ : ∃ BR, BR = v6.heap.size := ⟨_, rfl⟩
            have BN : Hid (BS v6 [(v6.heap.size, [.int .i64 k9, .string u9, .slice sq9 sn9 sc9, .int .i64 a9])] (v6.alloc (.cells #[.int .i64 k9, .string u9, .slice sq9 sn9 sc9, .int .i64 a9] 30))) := (BS.start v6).new [.int .i64 k9, .string u9, .slice sq9 sn9 sc9, .int .i64 a9] 30 rfl
            have KN : Hid ((Kp g w (v6.alloc (.cells #[.int .i64 k9, .string u9, .slice sq9 sn9 sc9, .int .i64 a9] 30)) ∧ Bx (v6.alloc (.cells #[.int .i64 k9, .string u9, .slice sq9 sn9 sc9, .int .i64 a9] 30)) w.heap.size [.int .i64 0, .string ⟨#[]⟩, .slice none 0 0, .int .i64 0] ∧ Bx (v6.alloc (.cells #[.int .i64 k9, .string u9, .slice sq9 sn9 sc9, .int .i64 a9] 30)) B [.int .i64 6, .string ⟨#[]⟩, .slice none 0 0, .int .i64 r.2.2] ∧ RS g b cap T (v6.alloc (.cells #[.int .i64 k9, .string u9, .slice sq9 sn9 sc9, .int .i64 a9] 30)) L1 (d + 1) ∧ EndL (mL L1) ∧ NdAt (fun c => B < c) (v6.alloc (.cells #[.int .i64 k9, .string u9, .slice sq9 sn9 sc9, .int .i64 a9] 30)) n [.int .i64 k9, .string u9, .slice sq9 sn9 sc9, .int .i64 a9]) ∧ Bx (v6.alloc (.cells #[.int .i64 k9, .string u9, .slice sq9 sn9 sc9, .int .i64 a9] 30)) BR [.int .i64 k9, .string u9, .slice sq9 sn9 sc9, .int .i64 a9]) := ⟨⟨KK.out.1.alloc _, KK.out.2.1.alloc _, KK.out.2.2.1.alloc _, KK.out.2.2.2.1.below BN.out.1, KK.out.2.2.2.2.1, KK.out.2.2.2.2.2.below BN.out.1⟩, by rw [hBR]; exact BN.out.first⟩
            refine gen_anyR (fun V' => (Kp g w V' ∧ Bx V' w.heap.size [.int .i64 0, .string ⟨#[]⟩, .slice none 0 0, .int .i64 0] ∧ Bx V' B [.int .i64 6, .string ⟨#[]⟩, .slice none 0 0, .int .i64 r.2.2] ∧ RS g b cap T V' L1 (d + 1) ∧ EndL (mL L1) ∧ NdAt (fun c => B < c) V' n [.int .i64 k9, .string u9, .slice sq9 sn9 sc9, .int .i64 a9]) ∧ Bx V' BR [.int .i64 k9, .string u9, .slice sq9 sn9 sc9, .int .i64 a9]) KN.out ?_
            have hBR1 : B < BR := by omega
            rw [← hBR]
            clear hHeld hK K KN BN hBR hwB KK
            rintro v11 ⟨kk1, kk2⟩
            have KK : Hid (Kp g w v11 ∧ Bx v11 w.heap.size [.int .i64 0, .string ⟨#[]⟩, .slice none 0 0, .int .i64 0] ∧ Bx v11 B [.int .i64 6, .string ⟨#[]⟩, .slice none 0 0, .int .i64 r.2.2] ∧ RS g b cap T v11 L1 (d + 1) ∧ EndL (mL L1) ∧ NdAt (fun c => B < c) v11 n [.int .i64 k9, .string u9, .slice sq9 sn9 sc9, .int .i64 a9]) := kk1
            have HRW : Hid (Bx v11 BR [.int .i64 k9, .string u9, .slice sq9 sn9 sc9, .int .i64 a9]) := kk2
            clear kk1 kk2
            have hHeld : True := trivial
            refine wpAnyH_ready (rs := [1]) (by kernel_rfl) (by simp) (AllReadyH.cons (o := { dst := some 52, op := _, type := _, pos := _, after := _, guard := none }) rfl (fun K hK => ?_) AllReadyH.nil)
            have q0 := KK.out.2.2.1.c 2 rfl
            have q9 := KK.out.2.2.1.1
            go_simp
            refine hK.out _ _ trivial (fun hHeld => ?_)
            clear hK K q0 q9
            refine wpAnyH_ready (rs := [6]) (by kernel_rfl) (by simp) (AllReadyH.cons (o := { dst := some 57, op := _, type := _, pos := _, after := _, guard := none }) rfl (fun K hK => ?_) AllReadyH.nil)
            refine (if_pos (by kernel_rfl)).mpr (wp_append_new _ _ 28 rfl v11.heap.size 30 i0 (.agg #[.int .i64 0, .string ByteArray.empty, .slice none 0 0, .int .i64 0]) 4 56 Tryd.underlying28 hi0 iz0 iz1 iz2 rfl (by decide) (.slice none 0 0) 0 [] rfl (World.ownsRow_nil _ _ _ _) ⟨BR, 0, none⟩ 1 [.int .i64 k9, .string u9, .slice sq9 sn9 sc9, .int .i64 a9] rfl rfl (fun j u hj => by rw [show (⟨BR, 0, none⟩ : Addr).add j = ⟨BR, j, none⟩ from by rw [Addr.add_lit]; simp]; exact (HRW.out.2 j u hj).1) (by intro u hu; simp at hu; rcases hu with rfl | rfl | rfl | rfl <;> rfl) (by unfold maxLen; omega) (by omega) (Nat.le_refl _) ?_)
            intro v' w4 hown' hgrow hnew
            obtain ⟨sq', sn', sc', hv'⟩ := own_form hown'
            subst hv'
            have hgb : Below _ _ w4 := grown_below hgrow
            have HO : Hid (w4.ownsRow v11.heap.size 30 4 (.slice sq' sn' sc') 1 [.int .i64 k9, .string u9, .slice sq9 sn9 sc9, .int .i64 a9]) := hown'
            have hBV : B < v11.heap.size := KK.out.2.2.1.1
            have K4 : Hid (Kp g w w4 ∧ Bx w4 w.heap.size [.int .i64 0, .string ⟨#[]⟩, .slice none 0 0, .int .i64 0] ∧ Bx w4 B [.int .i64 6, .string ⟨#[]⟩, .slice none 0 0, .int .i64 r.2.2] ∧ RS g b cap T w4 L1 (d + 1) ∧ EndL (mL L1) ∧ NdAt (fun c => B < c) w4 n [.int .i64 k9, .string u9, .slice sq9 sn9 sc9, .int .i64 a9]) := ⟨KK.out.1.trans (Kp.of hgb), KK.out.2.1.below hgb, KK.out.2.2.1.below hgb, KK.out.2.2.2.1.below hgb, KK.out.2.2.2.2.1, KK.out.2.2.2.2.2.below hgb⟩
            refine hK.out _ _ trivial (fun hHeld => ?_)
            clear hK K hown' hgrow hnew hgb KK HRW
            refine wpAnyH_take (i := 7) (v := ?_) (oi := { dst := some 58, op := _, type := _, pos := _, after := _, guard := none }) rfl (by kernel_rfl) (by kernel_rfl) (by kernel_rfl) (fun _ _ _ h => h) (Or.inl ⟨by kernel_rfl, ?_⟩) (by assumption) ?_
            case refine_2 => (intro w9 hSw; clear hSw; go_simp; try with_reducible rfl)
            simp only [Act.put, List.setIfInBounds_toArray, List.set_cons_zero, List.set_cons_succ]
            refine wpAnyH_ready (rs := [8]) (by kernel_rfl) (by simp) (AllReadyH.cons (o := { dst := none, op := _, type := _, pos := _, after := _, guard := none }) rfl (fun K hK => ?_) AllReadyH.nil)
            obtain ⟨R1, cp1, hv1, hc1, hc2, hR1, hR2, hRw⟩ := row_one HO.out K4.out.2.2.2.2.2
            obtain ⟨rfl, rfl, rfl⟩ : sq' = some ⟨R1, 0, none⟩ ∧ sn' = 1 ∧ sc' = cp1 := by cases hv1; exact ⟨rfl, rfl, rfl⟩
            have hn7 : NdAt (fun c => B < c) w4 (.mk 6 ByteArray.empty [n] r.2.2) [.int .i64 6, .string ⟨#[]⟩, .slice (some ⟨R1, 0, none⟩) 1 sc', .int .i64 r.2.2] := NdAt.row (ks := [n]) (by simp) hc1 hc2 (by omega) hR2 hRw
            have hoff : ∀ c, c < w4.heap.size → c ≠ B → (w4.setCell ⟨B, 2, none⟩ (.slice (some ⟨R1, 0, none⟩) 1 sc')).heap[c]? = w4.heap[c]? := fun c _ hc => Below.heap_setCell _ _ _ _ hc
            have K7 : Hid (Kp g w (w4.setCell ⟨B, 2, none⟩ (.slice (some ⟨R1, 0, none⟩) 1 sc')) ∧ Bx (w4.setCell ⟨B, 2, none⟩ (.slice (some ⟨R1, 0, none⟩) 1 sc')) w.heap.size [.int .i64 0, .string ⟨#[]⟩, .slice none 0 0, .int .i64 0] ∧ Bx (w4.setCell ⟨B, 2, none⟩ (.slice (some ⟨R1, 0, none⟩) 1 sc')) B [.int .i64 6, .string ⟨#[]⟩, .slice (some ⟨R1, 0, none⟩) 1 sc', .int .i64 r.2.2] ∧ RS g b cap T (w4.setCell ⟨B, 2, none⟩ (.slice (some ⟨R1, 0, none⟩) 1 sc')) L1 (d + 1) ∧ EndL (mL L1) ∧ NdAt (fun c => B < c) (w4.setCell ⟨B, 2, none⟩ (.slice (some ⟨R1, 0, none⟩) 1 sc')) (.mk 6 ByteArray.empty [n] r.2.2) [.int .i64 6, .string ⟨#[]⟩, .slice (some ⟨R1, 0, none⟩) 1 sc', .int .i64 r.2.2]) := ⟨K4.out.1.set (p := ⟨B, 2, none⟩) (.inr (by show _ ≤ B; omega)) _, K4.out.2.1.setOther (by omega) [_] 2, K4.out.2.2.1.set1 2 _ (by simp), K4.out.2.2.2.1.off (r := B) hoff (by simp) (by omega) (by omega), K4.out.2.2.2.2.1, hn7.off (r := B) hoff (by simp) (fun c hc => ⟨hc, by omega⟩)⟩
            have z2 := K4.out.2.2.1.f 2 rfl
            have c2 := K4.out.2.2.1.c 2 rfl
            have hB4 := K4.out.2.2.1.1
            go_simp
            refine hK.out _ _ trivial (fun hHeld => ?_)
            refine gen_anyR (fun V => Kp g w V ∧ Bx V w.heap.size [.int .i64 0, .string ⟨#[]⟩, .slice none 0 0, .int .i64 0] ∧ Bx V B [.int .i64 6, .string ⟨#[]⟩, .slice (some ⟨R1, 0, none⟩) 1 sc', .int .i64 r.2.2] ∧ RS g b cap T V L1 (d + 1) ∧ EndL (mL L1) ∧ NdAt (fun c => B < c) V (.mk 6 ByteArray.empty [n] r.2.2) [.int .i64 6, .string ⟨#[]⟩, .slice (some ⟨R1, 0, none⟩) 1 sc', .int .i64 r.2.2]) K7.out ?_
            clear hK K z2 c2 hB4 K7 K4 HO hoff hHeld hn7 hRw hv1
            intro v14 hv7
            have KK : Hid (Kp g w v14 ∧ Bx v14 w.heap.size [.int .i64 0, .string ⟨#[]⟩, .slice none 0 0, .int .i64 0] ∧ Bx v14 B [.int .i64 6, .string ⟨#[]⟩, .slice (some ⟨R1, 0, none⟩) 1 sc', .int .i64 r.2.2] ∧ RS g b cap T v14 L1 (d + 1) ∧ EndL (mL L1) ∧ NdAt (fun c => B < c) v14 (.mk 6 ByteArray.empty [n] r.2.2) [.int .i64 6, .string ⟨#[]⟩, .slice (some ⟨R1, 0, none⟩) 1 sc', .int .i64 r.2.2]) := hv7
            clear hv7
            have hHeld : True := trivial
            refine wpAnyH_done (by kernel_rfl) ?_ _
            obtain ⟨⟨pre4, pa4, he4, hb4⟩, -⟩ := KK.out.2.2.2.1
            have cg1 := hb4.c 1 rfl
            have fg1 := hb4.f 1 rfl
            have hgl := hb4.1
            clear hb4 he4
            have hdw : IntKind.i64.wrap ((d : Int) + 1 - 1) = (d : Int) := by rw [IntKind.wrap_i64]; omega
            have hdw2 : IntKind.i64.wrap (d : Int) = (d : Int) := by rw [IntKind.wrap_i64]; omega
            go_upto_region 17 with fail
            refine gen_to (fun V => Kp g w V ∧ Bx V w.heap.size [.int .i64 0, .string ⟨#[]⟩, .slice none 0 0, .int .i64 0] ∧ RS g b cap T V L1 d ∧ Bx V B [.int .i64 6, .string ⟨#[]⟩, .slice (some ⟨R1, 0, none⟩) 1 sc', .int .i64 r.2.2] ∧ NdAt (fun c => B < c) V (.mk 6 ByteArray.empty [n] r.2.2) [.int .i64 6, .string ⟨#[]⟩, .slice (some ⟨R1, 0, none⟩) 1 sc', .int .i64 r.2.2]) (rdeep_ok hg KK.out.1 KK.out.2.1 (by omega) KK.out.2.2.2.1 KK.out.2.2.1 hBg KK.out.2.2.2.2.2 (fun c hc => by omega)) ?_
            have HE5 : Hid (EndL (mL L1)) := KK.out.2.2.2.2.1
            rintro W8 ⟨k8, h8, s8, t8, n8⟩
            have HK5 : Hid (Kp g w W8) := k8
            have HH5 : Hid (Bx W8 w.heap.size [.int .i64 0, .string ⟨#[]⟩, .slice none 0 0, .int .i64 0]) := h8
            have HS5 : Hid (RS g b cap T W8 L1 d) := s8
            have HN5 : Hid (NdAt (fun c => B < c) W8 (.mk 6 ByteArray.empty [n] r.2.2) [.int .i64 6, .string ⟨#[]⟩, .slice (some ⟨R1, 0, none⟩) 1 sc', .int .i64 r.2.2]) := n8
            have l0' := t8.c 0 rfl
            have l1' := t8.c 1 rfl
            have l2' := t8.c 2 rfl
            have l3' := t8.c 3 rfl
            have hl' := t8.1
            clear k8 h8 s8 t8 n8 cg1 fg1 hgl KK hHeld
            obtain ⟨FK, FB, FO, FS⟩ := fin4 [] (.int .i64 6) (.string ⟨#[]⟩) (.slice (some ⟨R1, 0, none⟩) 1 sc') (.int .i64 r.2.2) HK5.out (Nat.le_refl _) (HH5.out)
            have y0' := FB.c 0 rfl
            have y1' := FB.c 1 rfl
            have y2' := FB.c 2 rfl
            have y3' := FB.c 3 rfl
            simp only [List.foldl, World.setCells, Nat.zero_add, Nat.reduceAdd] at y0' y1' y2' y3'
            have HFK : Hid _ := FK
            have HFO : Hid _ := FO
            have HFS : Hid _ := FS
            clear FK FB FO FS
            have rr0 := (HH5.out).c 0 rfl
            have rr1 := (HH5.out).c 1 rfl
            have rr2 := (HH5.out).c 2 rfl
            have rr3 := (HH5.out).c 3 rfl
            have rf0 := (HH5.out).f 0 rfl
            have rf1 := (HH5.out).f 1 rfl
            have rf2 := (HH5.out).f 2 rfl
            have rf3 := (HH5.out).f 3 rfl
            have hrw' := (HH5.out).1
            go_wp2
            refine bodyPost_ret (v := .agg #[.int .i64 6, .string ⟨#[]⟩, .slice (some ⟨R1, 0, none⟩) 1 sc', .int .i64 r.2.2]) (by simp [results, Tryd.results18, go_sem, y0', y1', y2', y3']) rfl ⟨HFK.out, by rw [HR9.out]; exact ⟨L1, rfl, HS5.out.off HFO.out HFS.out (by omega) (by omega), HE5.out, _, _, _, _, _, _, rfl, HN5.out.off HFO.out HFS.out (fun c hc => ⟨by omega, by omega⟩)⟩⟩
  · rw [Bool.not_eq_true] at hi
    rw [hi] at hsg hR
    rw [if_neg (by simp)] at hR
    have HSi := rsign_any g b cap T l r HGr.out (b1 45) (fun z => by rw [hsg] at z; cases z) d _ HP0.out
    rw [hsg, if_neg (by simp)] at HSi
    have HSg : Hid _ := HSi
    clear HSi hsg hi
    have HCC : Hid (∀ V : World, RS g b cap T V (r :: l) d → Calls Tryd.prog 18 #[.pointer (some ⟨g, 0, none⟩), .int .i64 7] V fun e w' => Kp g V w' ∧ ROut g b V.heap.size cap T (fun c => V.heap.size ≤ c) w' d e R) := fun V hV => by rw [← hR]; exact HA.out V (r :: l) d f hV HL.out hd (by simp only [List.length_cons]; omega) (by simp only [need, mL_cons, List.length_cons, mL_len]; omega)
    clear hR
    go_enter Tryd.func18, Tryd.ntmps18
    go_wp2_with fail
    refine Calls.mono HSg.out ?_
    rintro e W1 ⟨rfl, hk1, hr1⟩
    have hz1 : w.heap.size + 1 ≤ W1.heap.size := by have := hk1.size; (try simp at this); omega
    have K1 : Hid (Kp g w W1) := (Kp.of B0.out.1).trans hk1
    have H1 : Hid (Bx W1 w.heap.size [.int .i64 0, .string ⟨#[]⟩, .slice none 0 0, .int .i64 0]) := hk1.bx B0.out.first (by omega)
    have S1 : Hid (RS g b cap T W1 (r :: l) d) := hr1
    clear hk1 hr1 B0 HP HP0 HSg cg0 cg1 cg2 fg0 fg1 t0 t1 t2 hgW hbW hlen hmost hle HEQ HBX HTR hne
    go_wp2_with fail
    refine (HCC.out _ S1.out).mono ?_
    rintro e W2 ⟨hk2, ho⟩
    have hz2 : w.heap.size + 1 ≤ W2.heap.size := by have := hk2.size; omega
    have K2 : Hid (Kp g w W2) := K1.out.trans hk2
    have H2 : Hid (Bx W2 w.heap.size [.int .i64 0, .string ⟨#[]⟩, .slice none 0 0, .int .i64 0]) := hk2.bx H1.out (by omega)
    clear hk2 HCC K1 H1 S1
    cases R with
    | no ea er =>
      obtain ⟨her, hf, k9, u9, sq9, sn9, sc9, a9, rfl⟩ := ho
      have HF : Hid (RF g b (w.heap.size + 1) W2 ea er) := hf.mono (by omega)
      have HER : Hid (er ≠ 0) := her
      clear hf her
      obtain ⟨FK, FB, FO, FS⟩ := fin4 [] (.int .i64 k9) (.string u9) (.slice sq9 sn9 sc9) (.int .i64 a9) K2.out (Nat.le_refl _) (H2.out)
      have y0' := FB.c 0 rfl
      have y1' := FB.c 1 rfl
      have y2' := FB.c 2 rfl
      have y3' := FB.c 3 rfl
      simp only [List.foldl, World.setCells, Nat.zero_add, Nat.reduceAdd] at y0' y1' y2' y3'
      have HFK : Hid _ := FK
      have HFO : Hid _ := FO
      have HFS : Hid _ := FS
      clear FK FB FO FS
      have rr0 := (H2.out).c 0 rfl
      have rr1 := (H2.out).c 1 rfl
      have rr2 := (H2.out).c 2 rfl
      have rr3 := (H2.out).c 3 rfl
      have rf0 := (H2.out).f 0 rfl
      have rf1 := (H2.out).f 1 rfl
      have rf2 := (H2.out).f 2 rfl
      have rf3 := (H2.out).f 3 rfl
      have hrw' := (H2.out).1
      go_wp2
      refine bodyPost_ret (v := .agg #[.int .i64 k9, .string u9, .slice sq9 sn9 sc9, .int .i64 a9]) (by simp [results, Tryd.results18, go_sem, y0', y1', y2', y3']) rfl ⟨HFK.out, HER.out, (HF.out.off HFO.out HFS.out (by omega) (by omega) (by omega)).mono (by omega), _, _, _, _, _, _, rfl⟩
    | ok n l1 =>
      obtain ⟨L1, rfl, hrs, hend, k9, u9, sq9, sn9, sc9, a9, rfl, hnd⟩ := ho
      have HS : Hid (RS g b cap T W2 L1 d) := hrs
      have HE1 : Hid (EndL (mL L1)) := hend
      have HNd : Hid (NdAt (fun c => w.heap.size + 1 ≤ c) W2 n [.int .i64 k9, .string u9, .slice sq9 sn9 sc9, .int .i64 a9]) := NdAt.keep (Nat.le_refl _) (fun c hc _ => ⟨by omega, rfl⟩) _ _ hnd
      clear hrs hend hnd
      obtain ⟨FK, FB, FO, FS⟩ := fin4 [] (.int .i64 k9) (.string u9) (.slice sq9 sn9 sc9) (.int .i64 a9) K2.out (Nat.le_refl _) (H2.out)
      have y0' := FB.c 0 rfl
      have y1' := FB.c 1 rfl
      have y2' := FB.c 2 rfl
      have y3' := FB.c 3 rfl
      simp only [List.foldl, World.setCells, Nat.zero_add, Nat.reduceAdd] at y0' y1' y2' y3'
      have HFK : Hid _ := FK
      have HFO : Hid _ := FO
      have HFS : Hid _ := FS
      clear FK FB FO FS
      have rr0 := (H2.out).c 0 rfl
      have rr1 := (H2.out).c 1 rfl
      have rr2 := (H2.out).c 2 rfl
      have rr3 := (H2.out).c 3 rfl
      have rf0 := (H2.out).f 0 rfl
      have rf1 := (H2.out).f 1 rfl
      have rf2 := (H2.out).f 2 rfl
      have rf3 := (H2.out).f 3 rfl
      have hrw' := (H2.out).1
      go_wp2
      refine bodyPost_ret (v := .agg #[.int .i64 k9, .string u9, .slice sq9 sn9 sc9, .int .i64 a9]) (by simp [results, Tryd.results18, go_sem, y0', y1', y2', y3']) rfl ⟨HFK.out, L1, rfl, HS.out.off HFO.out HFS.out (by omega) (by omega), HE1.out, _, _, _, _, _, _, rfl, HNd.out.off HFO.out HFS.out (fun c hc => ⟨by omega, by omega⟩)⟩

end Go.Proofs.YtaoocecipacnhaaDoor
