/- A line of the grammar: cmp. -/
import Derived.Test.YtaoocecipacnhaaDoorExSq
namespace Go.Proofs.YtaoocecipacnhaaDoor
open Go.RowKit
set_option linter.unusedVariables false

/-- all is done, and the result's block is written. -/
def DN (g b cap : Nat) (T : List Tk) (w : World) (d : Nat) (L : List Tk) (n : Nd) (c0 c1 c2 c3 : Value) (V : World) : Prop :=
  Kp g w V ∧ Bx V w.heap.size [c0, c1, c2, c3] ∧ PS g b cap T V L d ∧ EndL L ∧ NdAt (fun c => w.heap.size ≤ c) V n [c0, c1, c2, c3]
theorem DN.drew {g b cap : Nat} {T : List Tk} {w : World} {d : Nat} {L : List Tk} {n : Nd} {c0 c1 c2 c3 : Value} {V : World} (h : DN g b cap T w d L n c0 c1 c2 c3 V) : DN g b cap T w d L n c0 c1 c2 c3 V.drew := ⟨h.1.drew, h.2.1, h.2.2.1.drew, h.2.2.2.1, h.2.2.2.2.drew⟩
def DF (g : Nat) (w : World) (d : Nat) (ea er : Int) (V : World) : Prop := Kp g w V ∧ Bx V w.heap.size [.int .i64 0, .string ⟨#[]⟩, .slice none 0 0, .int .i64 0] ∧ PF g V d ea er
theorem DF.drew {g : Nat} {w : World} {d : Nat} {ea er : Int} {V : World} (h : DF g w d ea er V) : DF g w d ea er V.drew := ⟨h.1.drew, h.2⟩
theorem CS.done {g b cap : Nat} {T : List Tk} {w : World} {B d : Nat} {L L' : List Tk} {n n' : Nd} {c0 c1 c2 c3 d0 d1 d2 d3 : Value} {V V' : World} (h : CS g b cap T w B d L n c0 c1 c2 c3 V) (hg : g < w.heap.size) (hbl : b < w.heap.size) (hk : Kp g V V') (hp : PS g b cap T V' L' d) (he : EndL L')
    (hn : NdAt (fun c => (w.heap.size + 1 ≤ c ∧ c ≠ B) ∨ V.heap.size ≤ c) V' n' [d0, d1, d2, d3]) : DN g b cap T w d L' n' d0 d1 d2 d3 (V'.setCells w.heap.size 0 [d0, d1, d2, d3]) := by
  have hz := h.1.size
  have hz2 := h.2.1.1
  obtain ⟨q1, q2, q3, q4⟩ := fin4 [] d0 d1 d2 d3 (h.1.trans hk) (Nat.le_refl _) (hk.bx h.2.1 (by omega))
  exact ⟨q1, q2, hp.off q3 q4 (by omega) (by omega), he, hn.off q3 q4 (fun c hc => ⟨by omega, by omega⟩)⟩
theorem CS.failed {g b cap : Nat} {T : List Tk} {w : World} {B d : Nat} {L : List Tk} {n : Nd} {c0 c1 c2 c3 : Value} {V V' : World} {ea er : Int} (h : CS g b cap T w B d L n c0 c1 c2 c3 V) (hg : g < w.heap.size) (hk : Kp g V V') (hf : PF g V' d ea er) : DF g w d ea er (V'.setCells w.heap.size 0 [.int .i64 0, .string ⟨#[]⟩, .slice none 0 0, .int .i64 0]) := by
  obtain ⟨q1, q2, q3, q4⟩ := fin4 [] (.int .i64 0) (.string ⟨#[]⟩) (.slice none 0 0) (.int .i64 0) (h.1.trans hk) (Nat.le_refl _) (hk.bx h.2.1 (by omega))
  exact ⟨q1, q2, hf.off q3 q4 (by omega)⟩

set_option maxRecDepth 100000 in
set_option maxHeartbeats 4000000 in
theorem cmp_lv (g b cap : Nat) (T : List Tk) (N : Nat) (HM : Hid (LvOk g b cap T 83 4 N)) : LvOk g b cap T 75 3 N := by
  intro w L d f h hL hd hN hf
  obtain ⟨p, l, rfl⟩ := hL.cons
  obtain ⟨f, rfl⟩ : ∃ f', f = f' + 1 := ⟨f - 1, by simp only [need, List.length_cons] at hf; omega⟩
  have hf1 : need (.lv 4) (p :: l) ≤ f := by simp only [need, List.length_cons] at hf ⊢; omega
  simp only [need, List.length_cons] at hf
  have HC : Hid (∀ V : World, PS g b cap T V (p :: l) d → Calls Tryd.prog 83 #[.pointer (some ⟨g, 0, none⟩)] V fun e w' => Kp g V w' ∧ Out g b cap T (fun c => V.heap.size ≤ c) w' d e (par f (.lv 4) d (p :: l))) := fun V hV => HM.out V _ d f hV hL hd hN hf1
  have eP : par (f + 1) (.lv 3) d (p :: l) = match par f (.lv 4) d (p :: l) with | .ok n l1 => cmpK (par f) d n l1 | .no a e => .no a e := by
    rw [par_succ]; unfold pst; dsimp only
    rw [if_neg (by omega), if_neg (by omega), if_pos rfl]
    cases par f (.lv 4) d (p :: l) <;> rfl
  obtain ⟨R, hR⟩ : ∃ R, R = par (f + 1) (.lv 3) d (p :: l) := ⟨_, rfl⟩
  rw [← hR]
  rw [eP] at hR
  clear eP
  cases hr : par f (.lv 4) d (p :: l) with
  | no ea er =>
    rw [hr] at HC hR
    have HR0 : Hid (R = .no ea er) := hR
    clear hR hr
    have HP : Hid _ := h
    have hg := h.lt
    have hbl := h.tr.1
    clear h
    go_enter Tryd.func75, Tryd.ntmps75
    go_wp2_with fail
    have B0 : Hid (BS w [(w.heap.size, [.int .i64 0, .string ⟨#[]⟩, .slice none 0 0, .int .i64 0])] _) := ((BS.start w).new [.int .i64 0, .string ⟨#[]⟩, .slice none 0 0, .int .i64 0] 24 rfl)
    refine (HC.out _ (HP.out.below B0.out.1)).mono ?_
    rintro e W1 ⟨hk, ho⟩
    have hz1 : w.heap.size + 1 ≤ W1.heap.size := by have := hk.size; (try simp at this); omega
    have K1 : Hid (Kp g w W1) := (Kp.of B0.out.1).trans hk
    have H1_0 : Hid (Bx W1 (w.heap.size) [.int .i64 0, .string ⟨#[]⟩, .slice none 0 0, .int .i64 0]) := hk.bx (B0.out.at (w.heap.size) [.int .i64 0, .string ⟨#[]⟩, .slice none 0 0, .int .i64 0] (by simp)) (by omega)
    clear B0
    obtain ⟨hf, rfl⟩ := ho
    have HF : Hid (PF g W1 d ea er) := hf
    clear hf hk
    have hl1_0 := H1_0.out.1
    have c1_0_0 := H1_0.out.c 0 rfl
    have z1_0_0 := H1_0.out.f 0 rfl
    have c1_0_1 := H1_0.out.c 1 rfl
    have z1_0_1 := H1_0.out.f 1 rfl
    have c1_0_2 := H1_0.out.c 2 rfl
    have z1_0_2 := H1_0.out.f 2 rfl
    have c1_0_3 := H1_0.out.c 3 rfl
    have z1_0_3 := H1_0.out.f 3 rfl
    obtain ⟨FK, FB, FO, FS⟩ := fin4 [.cells #[.int .i64 0, .string ⟨#[]⟩, .slice none 0 0, .int .i64 0] 24] (.int .i64 0) (.string ⟨#[]⟩) (.slice none 0 0) (.int .i64 0) K1.out (by omega) (H1_0.out)
    have y0' := FB.c 0 rfl
    have y1' := FB.c 1 rfl
    have y2' := FB.c 2 rfl
    have y3' := FB.c 3 rfl
    simp only [List.foldl, World.setCells, Nat.zero_add, Nat.reduceAdd] at y0' y1' y2' y3'
    have HFK : Hid _ := FK
    have HFO : Hid _ := FO
    have HFS : Hid _ := FS
    clear FK FB FO FS
    have r0 := (H1_0.out).c 0 rfl
    have r1 := (H1_0.out).c 1 rfl
    have r2 := (H1_0.out).c 2 rfl
    have r3 := (H1_0.out).c 3 rfl
    have s0 := (H1_0.out).f 0 rfl
    have s1 := (H1_0.out).f 1 rfl
    have s2 := (H1_0.out).f 2 rfl
    have s3 := (H1_0.out).f 3 rfl
    have hrw' := (H1_0.out).1
    go_wp2
    refine bodyPost_ret (v := .tuple #[.agg #[.int .i64 0, .string ⟨#[]⟩, .slice none 0 0, .int .i64 0], .bool false]) (by simp [results, Tryd.results75, go_sem, y0', y1', y2', y3']) rfl ⟨HFK.out, by rw [HR0.out]; exact ⟨PF.off HF.out HFO.out HFS.out (by omega), rfl⟩⟩
  | ok n l1 =>
    rw [hr] at HC hR
    have hls := par_less (g := .lv 4) (by simp [okTg]) hL hf1 hr
    have hls2 := hls.2
    simp only [most, List.length_cons] at hls2
    obtain ⟨q, l, rfl⟩ := hls.1.cons
    have HE0 : Hid (EndL (q :: l)) := hls.1
    simp only [List.length_cons] at hls2 hN
    clear hr hls
    have HP : Hid _ := h
    have hg := h.lt
    have hbl := h.tr.1
    clear h
    go_enter Tryd.func75, Tryd.ntmps75
    go_wp2_with fail
    have B0 : Hid (BS w [(w.heap.size, [.int .i64 0, .string ⟨#[]⟩, .slice none 0 0, .int .i64 0])] _) := ((BS.start w).new [.int .i64 0, .string ⟨#[]⟩, .slice none 0 0, .int .i64 0] 24 rfl)
    refine (HC.out _ (HP.out.below B0.out.1)).mono ?_
    rintro e W1 ⟨hk, ho⟩
    have hz1 : w.heap.size + 1 ≤ W1.heap.size := by have := hk.size; (try simp at this); omega
    have K1 : Hid (Kp g w W1) := (Kp.of B0.out.1).trans hk
    have H1_0 : Hid (Bx W1 (w.heap.size) [.int .i64 0, .string ⟨#[]⟩, .slice none 0 0, .int .i64 0]) := hk.bx (B0.out.at (w.heap.size) [.int .i64 0, .string ⟨#[]⟩, .slice none 0 0, .int .i64 0] (by simp)) (by omega)
    clear B0
    obtain ⟨hps, hend, k, t, sq, sn, sc, a, rfl, hnd⟩ := ho
    have HS0 : Hid (CS g b cap T w W1.heap.size d (q :: l) n (.int .i64 k) (.string t) (.slice sq sn sc) (.int .i64 a) (W1.alloc (.cells #[.int .i64 k, .string t, .slice sq sn sc, .int .i64 a] 24))) := by
      refine ⟨K1.out.alloc _, H1_0.out.alloc _, Bx.new W1 [.int .i64 k, .string t, .slice sq sn sc, .int .i64 a] _, hps.below ((Below.refl _ _).alloc (Nat.le_refl _) _), ?_, by omega, hend⟩
      exact NdAt.keep (by simp) (fun c hc hl => ⟨⟨by (try simp at hc); omega, by omega⟩, Below.heap_alloc _ _ _ hl⟩) _ _ hnd
    clear hps hend hnd hk K1 H1_0 HC HP
    go_upto_region 2 with fail
    refine gen_to (CS g b cap T w W1.heap.size d (q :: l) n (.int .i64 k) (.string t) (.slice sq sn sc) (.int .i64 a)) HS0.out ?_
    obtain ⟨B, hB⟩ : ∃ B, B = W1.heap.size := ⟨_, rfl⟩
    have hB1 : w.heap.size + 1 ≤ B := by omega
    rw [← hB]
    clear HS0 hz1 hB
    intro W2 KK0
    have KK : Hid (CS g b cap T w B d (q :: l) n (.int .i64 k) (.string t) (.slice sq sn sc) (.int .i64 a) W2) := KK0
    clear KK0
    have hwr : B < W2.heap.size := KK.out.2.2.1.1
    have hwr2 : w.heap.size < W2.heap.size := KK.out.2.1.1
    have B2 : Hid (BS W2 [(W2.heap.size, [.int .i64 5, .string ⟨#[61]⟩, .int .i64 5, .string ⟨#[60, 62]⟩, .int .i64 5, .string ⟨#[60]⟩, .int .i64 5, .string ⟨#[60, 61]⟩, .int .i64 5, .string ⟨#[62]⟩, .int .i64 5, .string ⟨#[62, 61]⟩])] _) := (BS.start W2).new [.int .i64 5, .string ⟨#[61]⟩, .int .i64 5, .string ⟨#[60, 62]⟩, .int .i64 5, .string ⟨#[60]⟩, .int .i64 5, .string ⟨#[60, 61]⟩, .int .i64 5, .string ⟨#[62]⟩, .int .i64 5, .string ⟨#[62, 61]⟩] 79 rfl
    go_wp2_with fail
    refine (is_any g b cap T q l d (sgs 3) W2.heap.size 6 _ (KK.out.2.2.2.1.below B2.out.1) (by decide) (by omega) (by decide) B2.out.first).mono ?_
    rintro e W3 ⟨rfl, hb⟩
    have KB2 : Hid (CS g b cap T w B d (q :: l) n (.int .i64 k) (.string t) (.slice sq sn sc) (.int .i64 a) W3) := KK.out.kp hg ((Kp.of B2.out.1).trans (Kp.of hb)) ((KK.out.2.2.2.1.below B2.out.1).below hb) HE0.out
    have hwr3 : B < W3.heap.size := KB2.out.2.2.1.1
    have hwr4 : w.heap.size < W3.heap.size := KB2.out.2.1.1
    clear hb KK B2
    by_cases hi : isT q (sgs 3) = true
    · rw [hi]
      have hk0 : q.1 ≠ 0 := isT_kind hi (sgs_kind 3)
      have hEl : EndL l := EndL.tail HE0.out hk0
      obtain ⟨r, l2, rfl⟩ := hEl.cons
      have HE2 : Hid (EndL (r :: l2)) := hEl
      simp only [List.length_cons] at hls2
      have hf2 : need (.lv 4) (r :: l2) ≤ f := by simp only [need, List.length_cons]; omega
      have HMr0 : Hid (∀ V : World, PS g b cap T V (r :: l2) d → Calls Tryd.prog 83 #[.pointer (some ⟨g, 0, none⟩)] V fun e w' => Kp g V w' ∧ Out g b cap T (fun c => V.heap.size ≤ c) w' d e (par f (.lv 4) d (r :: l2))) := fun V hV => HM.out V _ d f hV HE2.out hd (by simp only [List.length_cons]; omega) hf2
      dsimp only [cmpK] at hR
      rw [if_pos hi] at hR
      have KK : Hid (CS g b cap T w B d (q :: r :: l2) n (.int .i64 k) (.string t) (.slice sq sn sc) (.int .i64 a) W3) := KB2
      clear hEl KB2
      cases hr : par f (.lv 4) d (r :: l2) with
      | ok m l3 =>
        rw [hr] at HMr0 hR
        have HMr : Hid _ := HMr0
        have HR0 : Hid (R = .ok (.mk 8 q.2.1 [n, m] q.2.2) l3) := hR
        clear hR hr HMr0
        go_wp2_with fail
        refine wp_region_held_drew (S := fun _ => True) (by kernel_rfl) trivial (fun hHeld => ?_)
        refine wpAnyH_take (i := 0) (v := ?_) (oi := { dst := some 27, op := _, type := _, pos := _, after := _, guard := none }) rfl (by kernel_rfl) (by kernel_rfl) (by kernel_rfl) (fun _ _ _ h => h) (Or.inl ⟨by kernel_rfl, ?_⟩) (by assumption) ?_
        case refine_2 => (intro w9 hSw; clear hSw; go_simp; try with_reducible rfl)
        simp only [Act.put, List.setIfInBounds_toArray, List.set_cons_zero, List.set_cons_succ]
        refine wpAnyH_take (i := 2) (v := ?_) (oi := { dst := some 29, op := _, type := _, pos := _, after := _, guard := none }) rfl (by kernel_rfl) (by kernel_rfl) (by kernel_rfl) (fun _ _ _ h => h) (Or.inl ⟨by kernel_rfl, ?_⟩) (by assumption) ?_
        case refine_2 => (intro w9 hSw; clear hSw; go_simp; try with_reducible rfl)
        simp only [Act.put, List.setIfInBounds_toArray, List.set_cons_zero, List.set_cons_succ]
        refine wpAnyH_take (i := 4) (v := ?_) (oi := { dst := some 31, op := _, type := _, pos := _, after := _, guard := none }) rfl (by kernel_rfl) (by kernel_rfl) (by kernel_rfl) (fun _ _ _ h => h) (Or.inl ⟨by kernel_rfl, ?_⟩) (by assumption) ?_
        case refine_2 => (intro w9 hSw; clear hSw; go_simp; try with_reducible rfl)
        simp only [Act.put, List.setIfInBounds_toArray, List.set_cons_zero, List.set_cons_succ]
        refine wpAnyH_take (i := 5) (v := ?_) (oi := { dst := some 32, op := _, type := _, pos := _, after := _, guard := none }) rfl (by kernel_rfl) (by kernel_rfl) (by kernel_rfl) (fun _ _ _ h => h) (Or.inl ⟨by kernel_rfl, ?_⟩) (by assumption) ?_
        case refine_2 => (intro w9 hSw; clear hSw; go_simp; try with_reducible rfl)
        simp only [Act.put, List.setIfInBounds_toArray, List.set_cons_zero, List.set_cons_succ]
        refine wpAnyH_ready (rs := [1, 3]) (by kernel_rfl) (by simp) (AllReadyH.cons (o := { dst := some 28, op := _, type := _, pos := _, after := _, guard := none }) rfl (fun K hK => ?_) (AllReadyH.cons (o := { dst := some 30, op := _, type := _, pos := _, after := _, guard := none }) rfl (fun K hK => ?_) AllReadyH.nil))
        ·
          have q0 := KK.out.2.2.1.c 0 rfl
          have q1 := KK.out.2.2.1.c 1 rfl
          have q2 := KK.out.2.2.1.c 2 rfl
          have q3 := KK.out.2.2.1.c 3 rfl
          go_simp
          refine hK.out _ _ trivial (fun hHeld => ?_)
          clear hK K q0 q1 q2 q3
          refine wpAnyH_ready (rs := [3]) (by kernel_rfl) (by simp) (AllReadyH.cons (o := { dst := some 30, op := _, type := _, pos := _, after := _, guard := none }) rfl (fun K hK => ?_) AllReadyH.nil)
          go_simp
          refine (next_any g b cap T q r l2 d _ (by first | exact KK.out.2.2.2.1 | exact KK.out.drew.2.2.2.1)).mono ?_
          rintro e v2 ⟨rfl, hk2, hp2⟩
          refine hK.out _ _ trivial (fun hHeld => ?_)
          replace KK : Hid (CS g b cap T w B d (r :: l2) n (.int .i64 k) (.string t) (.slice sq sn sc) (.int .i64 a) v2) := by first | exact KK.out.kp hg hk2 hp2 HE2.out | exact KK.out.drew.kp hg hk2 hp2 HE2.out
          clear hK K hk2 hp2
          refine wpAnyH_ready (rs := [6]) (by kernel_rfl) (by simp) (AllReadyH.cons (o := { dst := some 33, op := _, type := _, pos := _, after := _, guard := none }) rfl (fun K hK => ?_) AllReadyH.nil)
          go_simp
          refine (op_ok g b cap T _ (enters_of Tryd.func83 (by kernel_rfl) rfl) (r :: l2) d k t sq sn sc a q.1 q.2.1 q.2.2 n m l3 (fun c => w.heap.size + 1 ≤ c ∧ c ≠ B) (fun c hc => by omega) HMr _ (by first | exact KK.out.2.2.2.1 | exact KK.out.drew.2.2.2.1) (by first | exact KK.out.2.2.2.2.1 | exact KK.out.drew.2.2.2.2.1)).mono ?_
          rintro e v3 ⟨hk3, hps, hend, k2, u2, sq2, sn2, sc2, a2, rfl, hnd⟩
          refine hK.out _ _ trivial (fun hHeld => ?_)
          have KP : Hid (DN g b cap T w d l3 (.mk 8 q.2.1 [n, m] q.2.2) (.int .i64 k2) (.string u2) (.slice sq2 sn2 sc2) (.int .i64 a2) (v3.setCells w.heap.size 0 [.int .i64 k2, .string u2, .slice sq2 sn2 sc2, .int .i64 a2])) := by first | exact KK.out.done hg hbl hk3 hps hend hnd | exact KK.out.drew.done hg hbl hk3 hps hend hnd
          have hB8 : Bx v3 w.heap.size [.int .i64 0, .string ⟨#[]⟩, .slice none 0 0, .int .i64 0] := by first | exact hk3.bx KK.out.2.1 (by omega) | exact hk3.bx KK.out.drew.2.1 (by omega)
          have HB8 : Hid (Bx v3 w.heap.size _) := hB8
          simp only [World.setCells, Nat.zero_add, Nat.reduceAdd] at KP
          clear hK K hk3 hps hend hnd KK hB8
          refine wpAnyH_take (i := 7) (v := ?_) (oi := { dst := some 34, op := _, type := _, pos := _, after := _, guard := none }) rfl (by kernel_rfl) (by kernel_rfl) (by kernel_rfl) (fun _ _ _ h => h) (Or.inl ⟨by kernel_rfl, ?_⟩) (by assumption) ?_
          case refine_2 => (intro w9 hSw; clear hSw; go_simp; try with_reducible rfl)
          simp only [Act.put, List.setIfInBounds_toArray, List.set_cons_zero, List.set_cons_succ]
          refine wpAnyH_take (i := 8) (v := ?_) (oi := { dst := some 35, op := _, type := _, pos := _, after := _, guard := none }) rfl (by kernel_rfl) (by kernel_rfl) (by kernel_rfl) (fun _ _ _ h => h) (Or.inl ⟨by kernel_rfl, ?_⟩) (by assumption) ?_
          case refine_2 => (intro w9 hSw; clear hSw; go_simp; try with_reducible rfl)
          simp only [Act.put, List.setIfInBounds_toArray, List.set_cons_zero, List.set_cons_succ]
          refine wpAnyH_ready (rs := [9]) (by kernel_rfl) (by simp) (AllReadyH.cons (o := { dst := none, op := _, type := _, pos := _, after := _, guard := none }) rfl (fun K hK => ?_) AllReadyH.nil)
          have q0 := HB8.out.c 0 rfl
          have q1 := HB8.out.c 1 rfl
          have q2 := HB8.out.c 2 rfl
          have q3 := HB8.out.c 3 rfl
          have z0 := HB8.out.f 0 rfl
          have z1 := HB8.out.f 1 rfl
          have z2 := HB8.out.f 2 rfl
          have z3 := HB8.out.f 3 rfl
          have hB9 := HB8.out.1
          go_simp
          refine hK.out _ _ trivial (fun hHeld => ?_)
          refine gen_anyH (DN g b cap T w d l3 (.mk 8 q.2.1 [n, m] q.2.2) (.int .i64 k2) (.string u2) (.slice sq2 sn2 sc2) (.int .i64 a2)) (by first | exact KP.out | exact KP.out.drew) ?_
          clear hHeld hK K KP q0 q1 q2 q3 z0 z1 z2 z3 HB8 hB9
          intro v4 KK'
          have KK : Hid ((DN g b cap T w d l3 (.mk 8 q.2.1 [n, m] q.2.2) (.int .i64 k2) (.string u2) (.slice sq2 sn2 sc2) (.int .i64 a2)) v4) := KK'
          clear KK'
          have hHeld : True := trivial
          refine wpAnyH_take (i := 10) (v := ?_) (oi := { dst := some 3, op := _, type := _, pos := _, after := _, guard := none }) rfl (by kernel_rfl) (by kernel_rfl) (by kernel_rfl) (fun _ _ _ h => h) (Or.inl ⟨by kernel_rfl, ?_⟩) (by assumption) ?_
          case refine_2 => (intro w9 hSw; clear hSw; go_simp; try with_reducible rfl)
          simp only [Act.put, List.setIfInBounds_toArray, List.set_cons_zero, List.set_cons_succ]
          refine wpAnyH_done (by kernel_rfl) ?_ _
          have y0 := KK.out.2.1.c 0 rfl
          have y1 := KK.out.2.1.c 1 rfl
          have y2 := KK.out.2.1.c 2 rfl
          have y3 := KK.out.2.1.c 3 rfl
          go_wp2
          exact bodyPost_ret (v := .tuple #[.agg #[.int .i64 k2, .string u2, .slice sq2 sn2 sc2, .int .i64 a2], .bool true]) (by simp [results, Tryd.results75, go_sem, y0, y1, y2, y3]) rfl (by rw [HR0.out]; exact ⟨KK.out.1, KK.out.2.2.1, KK.out.2.2.2.1, _, _, _, _, _, _, rfl, KK.out.2.2.2.2⟩)
        ·
          go_simp
          refine (next_any g b cap T q r l2 d _ (by first | exact KK.out.2.2.2.1 | exact KK.out.drew.2.2.2.1)).mono ?_
          rintro e v5 ⟨rfl, hk5, hp5⟩
          refine hK.out _ _ trivial (fun hHeld => ?_)
          replace KK : Hid (CS g b cap T w B d (r :: l2) n (.int .i64 k) (.string t) (.slice sq sn sc) (.int .i64 a) v5) := by first | exact KK.out.kp hg hk5 hp5 HE2.out | exact KK.out.drew.kp hg hk5 hp5 HE2.out
          clear hK K hk5 hp5
          refine wpAnyH_ready (rs := [1]) (by kernel_rfl) (by simp) (AllReadyH.cons (o := { dst := some 28, op := _, type := _, pos := _, after := _, guard := none }) rfl (fun K hK => ?_) AllReadyH.nil)
          have q0 := KK.out.2.2.1.c 0 rfl
          have q1 := KK.out.2.2.1.c 1 rfl
          have q2 := KK.out.2.2.1.c 2 rfl
          have q3 := KK.out.2.2.1.c 3 rfl
          go_simp
          refine hK.out _ _ trivial (fun hHeld => ?_)
          clear hK K q0 q1 q2 q3
          refine wpAnyH_ready (rs := [6]) (by kernel_rfl) (by simp) (AllReadyH.cons (o := { dst := some 33, op := _, type := _, pos := _, after := _, guard := none }) rfl (fun K hK => ?_) AllReadyH.nil)
          go_simp
          refine (op_ok g b cap T _ (enters_of Tryd.func83 (by kernel_rfl) rfl) (r :: l2) d k t sq sn sc a q.1 q.2.1 q.2.2 n m l3 (fun c => w.heap.size + 1 ≤ c ∧ c ≠ B) (fun c hc => by omega) HMr _ (by first | exact KK.out.2.2.2.1 | exact KK.out.drew.2.2.2.1) (by first | exact KK.out.2.2.2.2.1 | exact KK.out.drew.2.2.2.2.1)).mono ?_
          rintro e v7 ⟨hk7, hps, hend, k2, u2, sq2, sn2, sc2, a2, rfl, hnd⟩
          refine hK.out _ _ trivial (fun hHeld => ?_)
          have KP : Hid (DN g b cap T w d l3 (.mk 8 q.2.1 [n, m] q.2.2) (.int .i64 k2) (.string u2) (.slice sq2 sn2 sc2) (.int .i64 a2) (v7.setCells w.heap.size 0 [.int .i64 k2, .string u2, .slice sq2 sn2 sc2, .int .i64 a2])) := by first | exact KK.out.done hg hbl hk7 hps hend hnd | exact KK.out.drew.done hg hbl hk7 hps hend hnd
          have hB8 : Bx v7 w.heap.size [.int .i64 0, .string ⟨#[]⟩, .slice none 0 0, .int .i64 0] := by first | exact hk7.bx KK.out.2.1 (by omega) | exact hk7.bx KK.out.drew.2.1 (by omega)
          have HB8 : Hid (Bx v7 w.heap.size _) := hB8
          simp only [World.setCells, Nat.zero_add, Nat.reduceAdd] at KP
          clear hK K hk7 hps hend hnd KK hB8
          refine wpAnyH_take (i := 7) (v := ?_) (oi := { dst := some 34, op := _, type := _, pos := _, after := _, guard := none }) rfl (by kernel_rfl) (by kernel_rfl) (by kernel_rfl) (fun _ _ _ h => h) (Or.inl ⟨by kernel_rfl, ?_⟩) (by assumption) ?_
          case refine_2 => (intro w9 hSw; clear hSw; go_simp; try with_reducible rfl)
          simp only [Act.put, List.setIfInBounds_toArray, List.set_cons_zero, List.set_cons_succ]
          refine wpAnyH_take (i := 8) (v := ?_) (oi := { dst := some 35, op := _, type := _, pos := _, after := _, guard := none }) rfl (by kernel_rfl) (by kernel_rfl) (by kernel_rfl) (fun _ _ _ h => h) (Or.inl ⟨by kernel_rfl, ?_⟩) (by assumption) ?_
          case refine_2 => (intro w9 hSw; clear hSw; go_simp; try with_reducible rfl)
          simp only [Act.put, List.setIfInBounds_toArray, List.set_cons_zero, List.set_cons_succ]
          refine wpAnyH_ready (rs := [9]) (by kernel_rfl) (by simp) (AllReadyH.cons (o := { dst := none, op := _, type := _, pos := _, after := _, guard := none }) rfl (fun K hK => ?_) AllReadyH.nil)
          have q0 := HB8.out.c 0 rfl
          have q1 := HB8.out.c 1 rfl
          have q2 := HB8.out.c 2 rfl
          have q3 := HB8.out.c 3 rfl
          have z0 := HB8.out.f 0 rfl
          have z1 := HB8.out.f 1 rfl
          have z2 := HB8.out.f 2 rfl
          have z3 := HB8.out.f 3 rfl
          have hB9 := HB8.out.1
          go_simp
          refine hK.out _ _ trivial (fun hHeld => ?_)
          refine gen_anyH (DN g b cap T w d l3 (.mk 8 q.2.1 [n, m] q.2.2) (.int .i64 k2) (.string u2) (.slice sq2 sn2 sc2) (.int .i64 a2)) (by first | exact KP.out | exact KP.out.drew) ?_
          clear hHeld hK K KP q0 q1 q2 q3 z0 z1 z2 z3 HB8 hB9
          intro v8 KK'
          have KK : Hid ((DN g b cap T w d l3 (.mk 8 q.2.1 [n, m] q.2.2) (.int .i64 k2) (.string u2) (.slice sq2 sn2 sc2) (.int .i64 a2)) v8) := KK'
          clear KK'
          have hHeld : True := trivial
          refine wpAnyH_take (i := 10) (v := ?_) (oi := { dst := some 3, op := _, type := _, pos := _, after := _, guard := none }) rfl (by kernel_rfl) (by kernel_rfl) (by kernel_rfl) (fun _ _ _ h => h) (Or.inl ⟨by kernel_rfl, ?_⟩) (by assumption) ?_
          case refine_2 => (intro w9 hSw; clear hSw; go_simp; try with_reducible rfl)
          simp only [Act.put, List.setIfInBounds_toArray, List.set_cons_zero, List.set_cons_succ]
          refine wpAnyH_done (by kernel_rfl) ?_ _
          have y0 := KK.out.2.1.c 0 rfl
          have y1 := KK.out.2.1.c 1 rfl
          have y2 := KK.out.2.1.c 2 rfl
          have y3 := KK.out.2.1.c 3 rfl
          go_wp2
          exact bodyPost_ret (v := .tuple #[.agg #[.int .i64 k2, .string u2, .slice sq2 sn2 sc2, .int .i64 a2], .bool true]) (by simp [results, Tryd.results75, go_sem, y0, y1, y2, y3]) rfl (by rw [HR0.out]; exact ⟨KK.out.1, KK.out.2.2.1, KK.out.2.2.2.1, _, _, _, _, _, _, rfl, KK.out.2.2.2.2⟩)
      | no ea er =>
        rw [hr] at HMr0 hR
        have HMr : Hid _ := HMr0
        have HR0 : Hid (R = .no ea er) := hR
        clear hR hr HMr0
        go_wp2_with fail
        refine wp_region_held_drew (S := fun _ => True) (by kernel_rfl) trivial (fun hHeld => ?_)
        refine wpAnyH_take (i := 0) (v := ?_) (oi := { dst := some 27, op := _, type := _, pos := _, after := _, guard := none }) rfl (by kernel_rfl) (by kernel_rfl) (by kernel_rfl) (fun _ _ _ h => h) (Or.inl ⟨by kernel_rfl, ?_⟩) (by assumption) ?_
        case refine_2 => (intro w9 hSw; clear hSw; go_simp; try with_reducible rfl)
        simp only [Act.put, List.setIfInBounds_toArray, List.set_cons_zero, List.set_cons_succ]
        refine wpAnyH_take (i := 2) (v := ?_) (oi := { dst := some 29, op := _, type := _, pos := _, after := _, guard := none }) rfl (by kernel_rfl) (by kernel_rfl) (by kernel_rfl) (fun _ _ _ h => h) (Or.inl ⟨by kernel_rfl, ?_⟩) (by assumption) ?_
        case refine_2 => (intro w9 hSw; clear hSw; go_simp; try with_reducible rfl)
        simp only [Act.put, List.setIfInBounds_toArray, List.set_cons_zero, List.set_cons_succ]
        refine wpAnyH_take (i := 4) (v := ?_) (oi := { dst := some 31, op := _, type := _, pos := _, after := _, guard := none }) rfl (by kernel_rfl) (by kernel_rfl) (by kernel_rfl) (fun _ _ _ h => h) (Or.inl ⟨by kernel_rfl, ?_⟩) (by assumption) ?_
        case refine_2 => (intro w9 hSw; clear hSw; go_simp; try with_reducible rfl)
        simp only [Act.put, List.setIfInBounds_toArray, List.set_cons_zero, List.set_cons_succ]
        refine wpAnyH_take (i := 5) (v := ?_) (oi := { dst := some 32, op := _, type := _, pos := _, after := _, guard := none }) rfl (by kernel_rfl) (by kernel_rfl) (by kernel_rfl) (fun _ _ _ h => h) (Or.inl ⟨by kernel_rfl, ?_⟩) (by assumption) ?_
        case refine_2 => (intro w9 hSw; clear hSw; go_simp; try with_reducible rfl)
        simp only [Act.put, List.setIfInBounds_toArray, List.set_cons_zero, List.set_cons_succ]
        refine wpAnyH_ready (rs := [1, 3]) (by kernel_rfl) (by simp) (AllReadyH.cons (o := { dst := some 28, op := _, type := _, pos := _, after := _, guard := none }) rfl (fun K hK => ?_) (AllReadyH.cons (o := { dst := some 30, op := _, type := _, pos := _, after := _, guard := none }) rfl (fun K hK => ?_) AllReadyH.nil))
        ·
          have q0 := KK.out.2.2.1.c 0 rfl
          have q1 := KK.out.2.2.1.c 1 rfl
          have q2 := KK.out.2.2.1.c 2 rfl
          have q3 := KK.out.2.2.1.c 3 rfl
          go_simp
          refine hK.out _ _ trivial (fun hHeld => ?_)
          clear hK K q0 q1 q2 q3
          refine wpAnyH_ready (rs := [3]) (by kernel_rfl) (by simp) (AllReadyH.cons (o := { dst := some 30, op := _, type := _, pos := _, after := _, guard := none }) rfl (fun K hK => ?_) AllReadyH.nil)
          go_simp
          refine (next_any g b cap T q r l2 d _ (by first | exact KK.out.2.2.2.1 | exact KK.out.drew.2.2.2.1)).mono ?_
          rintro e v2 ⟨rfl, hk2, hp2⟩
          refine hK.out _ _ trivial (fun hHeld => ?_)
          replace KK : Hid (CS g b cap T w B d (r :: l2) n (.int .i64 k) (.string t) (.slice sq sn sc) (.int .i64 a) v2) := by first | exact KK.out.kp hg hk2 hp2 HE2.out | exact KK.out.drew.kp hg hk2 hp2 HE2.out
          clear hK K hk2 hp2
          refine wpAnyH_ready (rs := [6]) (by kernel_rfl) (by simp) (AllReadyH.cons (o := { dst := some 33, op := _, type := _, pos := _, after := _, guard := none }) rfl (fun K hK => ?_) AllReadyH.nil)
          go_simp
          refine (op_no g b cap T _ (enters_of Tryd.func83 (by kernel_rfl) rfl) (r :: l2) d k t sq sn sc a q.1 q.2.1 q.2.2 ea er HMr _ (by first | exact KK.out.2.2.2.1 | exact KK.out.drew.2.2.2.1)).mono ?_
          rintro e v3 ⟨hk3, hf, rfl⟩
          refine hK.out _ _ trivial (fun hHeld => ?_)
          have KP : Hid (DF g w d ea er (v3.setCells w.heap.size 0 [.int .i64 0, .string ⟨#[]⟩, .slice none 0 0, .int .i64 0])) := by first | exact KK.out.failed hg hk3 hf | exact KK.out.drew.failed hg hk3 hf
          have hB8 : Bx v3 w.heap.size [.int .i64 0, .string ⟨#[]⟩, .slice none 0 0, .int .i64 0] := by first | exact hk3.bx KK.out.2.1 (by omega) | exact hk3.bx KK.out.drew.2.1 (by omega)
          have HB8 : Hid (Bx v3 w.heap.size _) := hB8
          simp only [World.setCells, Nat.zero_add, Nat.reduceAdd] at KP
          clear hK K hk3 hf KK hB8
          refine wpAnyH_take (i := 7) (v := ?_) (oi := { dst := some 34, op := _, type := _, pos := _, after := _, guard := none }) rfl (by kernel_rfl) (by kernel_rfl) (by kernel_rfl) (fun _ _ _ h => h) (Or.inl ⟨by kernel_rfl, ?_⟩) (by assumption) ?_
          case refine_2 => (intro w9 hSw; clear hSw; go_simp; try with_reducible rfl)
          simp only [Act.put, List.setIfInBounds_toArray, List.set_cons_zero, List.set_cons_succ]
          refine wpAnyH_take (i := 8) (v := ?_) (oi := { dst := some 35, op := _, type := _, pos := _, after := _, guard := none }) rfl (by kernel_rfl) (by kernel_rfl) (by kernel_rfl) (fun _ _ _ h => h) (Or.inl ⟨by kernel_rfl, ?_⟩) (by assumption) ?_
          case refine_2 => (intro w9 hSw; clear hSw; go_simp; try with_reducible rfl)
          simp only [Act.put, List.setIfInBounds_toArray, List.set_cons_zero, List.set_cons_succ]
          refine wpAnyH_ready (rs := [9]) (by kernel_rfl) (by simp) (AllReadyH.cons (o := { dst := none, op := _, type := _, pos := _, after := _, guard := none }) rfl (fun K hK => ?_) AllReadyH.nil)
          have q0 := HB8.out.c 0 rfl
          have q1 := HB8.out.c 1 rfl
          have q2 := HB8.out.c 2 rfl
          have q3 := HB8.out.c 3 rfl
          have z0 := HB8.out.f 0 rfl
          have z1 := HB8.out.f 1 rfl
          have z2 := HB8.out.f 2 rfl
          have z3 := HB8.out.f 3 rfl
          have hB9 := HB8.out.1
          go_simp
          refine hK.out _ _ trivial (fun hHeld => ?_)
          refine gen_anyH (DF g w d ea er) (by first | exact KP.out | exact KP.out.drew) ?_
          clear hHeld hK K KP q0 q1 q2 q3 z0 z1 z2 z3 HB8 hB9
          intro v4 KK'
          have KK : Hid ((DF g w d ea er) v4) := KK'
          clear KK'
          have hHeld : True := trivial
          refine wpAnyH_take (i := 10) (v := ?_) (oi := { dst := some 3, op := _, type := _, pos := _, after := _, guard := none }) rfl (by kernel_rfl) (by kernel_rfl) (by kernel_rfl) (fun _ _ _ h => h) (Or.inl ⟨by kernel_rfl, ?_⟩) (by assumption) ?_
          case refine_2 => (intro w9 hSw; clear hSw; go_simp; try with_reducible rfl)
          simp only [Act.put, List.setIfInBounds_toArray, List.set_cons_zero, List.set_cons_succ]
          refine wpAnyH_done (by kernel_rfl) ?_ _
          have y0 := KK.out.2.1.c 0 rfl
          have y1 := KK.out.2.1.c 1 rfl
          have y2 := KK.out.2.1.c 2 rfl
          have y3 := KK.out.2.1.c 3 rfl
          go_wp2
          exact bodyPost_ret (v := .tuple #[.agg #[.int .i64 0, .string ⟨#[]⟩, .slice none 0 0, .int .i64 0], .bool false]) (by simp [results, Tryd.results75, go_sem, y0, y1, y2, y3]) rfl (by rw [HR0.out]; exact ⟨KK.out.1, KK.out.2.2, rfl⟩)
        ·
          go_simp
          refine (next_any g b cap T q r l2 d _ (by first | exact KK.out.2.2.2.1 | exact KK.out.drew.2.2.2.1)).mono ?_
          rintro e v5 ⟨rfl, hk5, hp5⟩
          refine hK.out _ _ trivial (fun hHeld => ?_)
          replace KK : Hid (CS g b cap T w B d (r :: l2) n (.int .i64 k) (.string t) (.slice sq sn sc) (.int .i64 a) v5) := by first | exact KK.out.kp hg hk5 hp5 HE2.out | exact KK.out.drew.kp hg hk5 hp5 HE2.out
          clear hK K hk5 hp5
          refine wpAnyH_ready (rs := [1]) (by kernel_rfl) (by simp) (AllReadyH.cons (o := { dst := some 28, op := _, type := _, pos := _, after := _, guard := none }) rfl (fun K hK => ?_) AllReadyH.nil)
          have q0 := KK.out.2.2.1.c 0 rfl
          have q1 := KK.out.2.2.1.c 1 rfl
          have q2 := KK.out.2.2.1.c 2 rfl
          have q3 := KK.out.2.2.1.c 3 rfl
          go_simp
          refine hK.out _ _ trivial (fun hHeld => ?_)
          clear hK K q0 q1 q2 q3
          refine wpAnyH_ready (rs := [6]) (by kernel_rfl) (by simp) (AllReadyH.cons (o := { dst := some 33, op := _, type := _, pos := _, after := _, guard := none }) rfl (fun K hK => ?_) AllReadyH.nil)
          go_simp
          refine (op_no g b cap T _ (enters_of Tryd.func83 (by kernel_rfl) rfl) (r :: l2) d k t sq sn sc a q.1 q.2.1 q.2.2 ea er HMr _ (by first | exact KK.out.2.2.2.1 | exact KK.out.drew.2.2.2.1)).mono ?_
          rintro e v7 ⟨hk7, hf, rfl⟩
          refine hK.out _ _ trivial (fun hHeld => ?_)
          have KP : Hid (DF g w d ea er (v7.setCells w.heap.size 0 [.int .i64 0, .string ⟨#[]⟩, .slice none 0 0, .int .i64 0])) := by first | exact KK.out.failed hg hk7 hf | exact KK.out.drew.failed hg hk7 hf
          have hB8 : Bx v7 w.heap.size [.int .i64 0, .string ⟨#[]⟩, .slice none 0 0, .int .i64 0] := by first | exact hk7.bx KK.out.2.1 (by omega) | exact hk7.bx KK.out.drew.2.1 (by omega)
          have HB8 : Hid (Bx v7 w.heap.size _) := hB8
          simp only [World.setCells, Nat.zero_add, Nat.reduceAdd] at KP
          clear hK K hk7 hf KK hB8
          refine wpAnyH_take (i := 7) (v := ?_) (oi := { dst := some 34, op := _, type := _, pos := _, after := _, guard := none }) rfl (by kernel_rfl) (by kernel_rfl) (by kernel_rfl) (fun _ _ _ h => h) (Or.inl ⟨by kernel_rfl, ?_⟩) (by assumption) ?_
          case refine_2 => (intro w9 hSw; clear hSw; go_simp; try with_reducible rfl)
          simp only [Act.put, List.setIfInBounds_toArray, List.set_cons_zero, List.set_cons_succ]
          refine wpAnyH_take (i := 8) (v := ?_) (oi := { dst := some 35, op := _, type := _, pos := _, after := _, guard := none }) rfl (by kernel_rfl) (by kernel_rfl) (by kernel_rfl) (fun _ _ _ h => h) (Or.inl ⟨by kernel_rfl, ?_⟩) (by assumption) ?_
          case refine_2 => (intro w9 hSw; clear hSw; go_simp; try with_reducible rfl)
          simp only [Act.put, List.setIfInBounds_toArray, List.set_cons_zero, List.set_cons_succ]
          refine wpAnyH_ready (rs := [9]) (by kernel_rfl) (by simp) (AllReadyH.cons (o := { dst := none, op := _, type := _, pos := _, after := _, guard := none }) rfl (fun K hK => ?_) AllReadyH.nil)
          have q0 := HB8.out.c 0 rfl
          have q1 := HB8.out.c 1 rfl
          have q2 := HB8.out.c 2 rfl
          have q3 := HB8.out.c 3 rfl
          have z0 := HB8.out.f 0 rfl
          have z1 := HB8.out.f 1 rfl
          have z2 := HB8.out.f 2 rfl
          have z3 := HB8.out.f 3 rfl
          have hB9 := HB8.out.1
          go_simp
          refine hK.out _ _ trivial (fun hHeld => ?_)
          refine gen_anyH (DF g w d ea er) (by first | exact KP.out | exact KP.out.drew) ?_
          clear hHeld hK K KP q0 q1 q2 q3 z0 z1 z2 z3 HB8 hB9
          intro v8 KK'
          have KK : Hid ((DF g w d ea er) v8) := KK'
          clear KK'
          have hHeld : True := trivial
          refine wpAnyH_take (i := 10) (v := ?_) (oi := { dst := some 3, op := _, type := _, pos := _, after := _, guard := none }) rfl (by kernel_rfl) (by kernel_rfl) (by kernel_rfl) (fun _ _ _ h => h) (Or.inl ⟨by kernel_rfl, ?_⟩) (by assumption) ?_
          case refine_2 => (intro w9 hSw; clear hSw; go_simp; try with_reducible rfl)
          simp only [Act.put, List.setIfInBounds_toArray, List.set_cons_zero, List.set_cons_succ]
          refine wpAnyH_done (by kernel_rfl) ?_ _
          have y0 := KK.out.2.1.c 0 rfl
          have y1 := KK.out.2.1.c 1 rfl
          have y2 := KK.out.2.1.c 2 rfl
          have y3 := KK.out.2.1.c 3 rfl
          go_wp2
          exact bodyPost_ret (v := .tuple #[.agg #[.int .i64 0, .string ⟨#[]⟩, .slice none 0 0, .int .i64 0], .bool false]) (by simp [results, Tryd.results75, go_sem, y0, y1, y2, y3]) rfl (by rw [HR0.out]; exact ⟨KK.out.1, KK.out.2.2, rfl⟩)
    · rw [Bool.not_eq_true] at hi
      rw [hi]
      dsimp only [cmpK] at hR
      rw [hi] at hR
      have HR1 : Hid (R = .ok n (q :: l)) := hR
      have K9 : Hid (Kp g w W3) := KB2.out.1
      have H9 : Hid (Bx W3 w.heap.size _) := KB2.out.2.1
      have H8 : Hid (Bx W3 B _) := KB2.out.2.2.1
      clear hR
      have x0 := H8.out.c 0 rfl
      have x1 := H8.out.c 1 rfl
      have x2 := H8.out.c 2 rfl
      have x3 := H8.out.c 3 rfl
      obtain ⟨FK, FB, FO, FS⟩ := fin4 [] (.int .i64 k) (.string t) (.slice sq sn sc) (.int .i64 a) K9.out (by omega) (H9.out)
      have y0' := FB.c 0 rfl
      have y1' := FB.c 1 rfl
      have y2' := FB.c 2 rfl
      have y3' := FB.c 3 rfl
      simp only [List.foldl, World.setCells, Nat.zero_add, Nat.reduceAdd] at y0' y1' y2' y3'
      have HFK : Hid _ := FK
      have HFO : Hid _ := FO
      have HFS : Hid _ := FS
      clear FK FB FO FS
      have r0 := (H9.out).c 0 rfl
      have r1 := (H9.out).c 1 rfl
      have r2 := (H9.out).c 2 rfl
      have r3 := (H9.out).c 3 rfl
      have s0 := (H9.out).f 0 rfl
      have s1 := (H9.out).f 1 rfl
      have s2 := (H9.out).f 2 rfl
      have s3 := (H9.out).f 3 rfl
      have hrw' := (H9.out).1
      go_wp2
      refine bodyPost_ret (v := .tuple #[.agg #[.int .i64 k, .string t, .slice sq sn sc, .int .i64 a], .bool true]) (by simp [results, Tryd.results75, go_sem, y0', y1', y2', y3']) rfl ⟨HFK.out, by rw [HR1.out]; exact ⟨KB2.out.2.2.2.1.off HFO.out HFS.out (by omega) (by omega), HE0.out, _, _, _, _, _, _, rfl, KB2.out.2.2.2.2.1.off HFO.out HFS.out (fun c hc => ⟨by omega, by omega⟩)⟩⟩

end Go.Proofs.YtaoocecipacnhaaDoor
