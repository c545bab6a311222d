import Derived.Test.YtcmefhnfdcngfaaDoorP40
/- kind.check of any node. -/
namespace Go.Proofs.YtcmefhnfdcngfaaDoor
open Go.RowKit
set_option linter.unusedVariables false

set_option maxRecDepth 100000 in
set_option maxHeartbeats 4000000 in
theorem check_any (n : Nd) : CkOk n := by
  have hn := PlN.all n
  induction hn with
  | mk k t ks a ha hk ih =>
    intro htz hcn X w c0 c1 c2 c3 hkn h
    obtain ⟨rfl, rfl, rfl, sv, sw, rfl, hkl, HG⟩ := h.kids
    rw [tzN, Bool.and_eq_true, decide_eq_true_eq] at htz
    obtain ⟨htz, htl⟩ := htz
    rw [cnN] at hcn
    have hlen : ks.length ≤ 100000 := by have := cnL_len ks; omega
    have KC : Hid (∀ V : World, Below w.heap.size w V → Calls Tryd.prog 36 #[.slice sv ks.length sw] V fun e w' => Below V.heap.size V w' ∧ KdOut w' e (chL ks)) := fun V hV => ckids_any ks (tzL_mem htl) (fun n hn => by have := cnL_mem hn; omega) hlen ih X V sv sw (hkn.below hV) (fun j n e => by
      obtain ⟨b, e1, e2, e3, e4, d0, d1, d2, d3, y0, y1, y2, y3, y⟩ := HG.out j n e
      exact ⟨b, e1, e2, e3, Nat.lt_of_lt_of_le e4 hV.size, d0, d1, d2, d3, (hV.cell (p := ⟨b, j * 4, none⟩) e4).trans y0, (hV.cell (p := ⟨b, j * 4 + 1, none⟩) e4).trans y1, (hV.cell (p := ⟨b, j * 4 + 2, none⟩) e4).trans y2, (hV.cell (p := ⟨b, j * 4 + 3, none⟩) e4).trans y3, y.below hV⟩)
    have HK : Hid (Kn w) := hkn
    have hlI : (ks.length : Int) ≤ 100000 := by omega
    have hpl : ∀ x, x = chN (.mk k t ks a) → chN (.mk k t ks a) = x := fun x e => e.symm
    clear h HG hkn hcn htl hkl hk ih ha hpl
    cases hw : wrt k with
    | some r =>
      have hpt : ptV k t = .iface 84 (.int .i64 r) := by unfold ptV; rw [hw]
      have HC : Hid (chN (.mk k t ks a) = .inr (r, false)) := by show _ = _; rw [chN, hw]
      have ta := ta_wr r
      clear KC HK
      have PT : Hid (∀ V : World, Calls Tryd.prog 35 #[.agg #[.int .i64 k, .string t, .slice sv ks.length sw, .int .i64 a]] V fun e w' => e = .returned (.iface 84 (.int .i64 r)) ∧ Below V.heap.size V w') := fun V => by have q := part_any k t htz sv ks.length sw a V; rw [hpt] at q; exact q
      clear hpt
      go_enter Tryd.func28, Tryd.ntmps28
      go_wp2_with fail
      refine (PT.out _).mono ?_
      rintro e V ⟨rfl, hb⟩
      have BV : Hid (BS w [(w.heap.size + 1, [.int .i64 0, .bool false]), (w.heap.size, [.int .i64 k, .string t, .slice sv ks.length sw, .int .i64 a])] V) := (((BS.start w).new [.int .i64 k, .string t, .slice sv ks.length sw, .int .i64 a] 52 rfl).new [.int .i64 0, .bool false] 65 (b := w.heap.size + 1) (by simp)).below hb
      clear hb PT
      have e0 := (BV.out.at (w.heap.size + 1) [.int .i64 0, .bool false] (by simp)).c 0 rfl
      have e1 := (BV.out.at (w.heap.size + 1) [.int .i64 0, .bool false] (by simp)).c 1 rfl
      have z0 := (BV.out.at (w.heap.size + 1) [.int .i64 0, .bool false] (by simp)).f 0 rfl
      have z1 := (BV.out.at (w.heap.size + 1) [.int .i64 0, .bool false] (by simp)).f 1 rfl
      have hl1 := (BV.out.at (w.heap.size + 1) [.int .i64 0, .bool false] (by simp)).1
      have FB := (BV.out.at (w.heap.size + 1) [.int .i64 0, .bool false] (by simp)).setAll [.int .i64 r, .bool false] rfl
      have y0 := FB.c 0 rfl
      have y1 := FB.c 1 rfl
      simp only [World.setCells, Nat.zero_add] at y0 y1
      have HB : Hid (Below w.heap.size w (V.setCells (w.heap.size + 1) 0 [.int .i64 r, .bool false])) := below_setCells (by omega) _ _ _ BV.out.1
      clear FB BV 
      go_wp2
      exact bodyPost_ret (v := .tuple #[.agg #[.int .i64 r, .bool false], .int .i64 0, .bool true]) (by simp [results, Tryd.results28, go_sem, y0, y1]) rfl ⟨by rw [HC.out]; rfl, HB.out⟩
    | none =>
      have hch : chN (.mk k t ks a) = apL (chL ks) (opOf k t) a := by rw [chN, hw]
      cases hL : chL ks with
      | inl A =>
        have HC : Hid (chN (.mk k t ks a) = .inl A) := by show _ = _; rw [hch, hL]; rfl
        clear hch HK
        cases hO : opOf k t with
        | none =>
          have hpt : ptV k t = .nilIface := by unfold ptV; rw [hw, hO]
          clear hw hO
          have ta0 := ta_wn
          have PT : Hid (∀ V : World, Calls Tryd.prog 35 #[.agg #[.int .i64 k, .string t, .slice sv ks.length sw, .int .i64 a]] V fun e w' => e = .returned (.nilIface) ∧ Below V.heap.size V w') := fun V => by have q := part_any k t htz sv ks.length sw a V; rw [hpt] at q; exact q
          clear hpt
          go_enter Tryd.func28, Tryd.ntmps28
          go_wp2_with fail
          refine (PT.out _).mono ?_
          rintro e V ⟨rfl, hb⟩
          have BV : Hid (BS w [(w.heap.size + 1, [.int .i64 0, .bool false]), (w.heap.size, [.int .i64 k, .string t, .slice sv ks.length sw, .int .i64 a])] V) := (((BS.start w).new [.int .i64 k, .string t, .slice sv ks.length sw, .int .i64 a] 52 rfl).new [.int .i64 0, .bool false] 65 (b := w.heap.size + 1) (by simp)).below hb
          clear hb PT
          have e0 := (BV.out.at (w.heap.size + 1) [.int .i64 0, .bool false] (by simp)).c 0 rfl
          have e1 := (BV.out.at (w.heap.size + 1) [.int .i64 0, .bool false] (by simp)).c 1 rfl
          have z0 := (BV.out.at (w.heap.size + 1) [.int .i64 0, .bool false] (by simp)).f 0 rfl
          have z1 := (BV.out.at (w.heap.size + 1) [.int .i64 0, .bool false] (by simp)).f 1 rfl
          have hl1 := (BV.out.at (w.heap.size + 1) [.int .i64 0, .bool false] (by simp)).1
          have m2 := (BV.out.at (w.heap.size) [.int .i64 k, .string t, .slice sv ks.length sw, .int .i64 a] (by simp)).c 2 rfl
          have hl0 := (BV.out.at (w.heap.size) [.int .i64 k, .string t, .slice sv ks.length sw, .int .i64 a] (by simp)).1
          go_wp2_with fail
          refine (KC.out _ BV.out.1).mono ?_
          rintro e U ⟨hb, hU⟩
          rw [hL] at hU
          obtain rfl := hU
          have BU : Hid (BS w [(w.heap.size + 1, [.int .i64 0, .bool false]), (w.heap.size, [.int .i64 k, .string t, .slice sv ks.length sw, .int .i64 a])] U) := BV.out.below hb
          clear hb BV KC e0 e1 z0 z1 hl1 m2 hl0 hL
          have e0 := (BU.out.at (w.heap.size + 1) [.int .i64 0, .bool false] (by simp)).c 0 rfl
          have e1 := (BU.out.at (w.heap.size + 1) [.int .i64 0, .bool false] (by simp)).c 1 rfl
          have z0 := (BU.out.at (w.heap.size + 1) [.int .i64 0, .bool false] (by simp)).f 0 rfl
          have z1 := (BU.out.at (w.heap.size + 1) [.int .i64 0, .bool false] (by simp)).f 1 rfl
          have hl1 := (BU.out.at (w.heap.size + 1) [.int .i64 0, .bool false] (by simp)).1
          have FB := (BU.out.at (w.heap.size + 1) [.int .i64 0, .bool false] (by simp)).setAll [.int .i64 0, .bool false] rfl
          have y0 := FB.c 0 rfl
          have y1 := FB.c 1 rfl
          simp only [World.setCells, Nat.zero_add] at y0 y1
          have HB : Hid (Below w.heap.size w (U.setCells (w.heap.size + 1) 0 [.int .i64 0, .bool false])) := below_setCells (by omega) _ _ _ BU.out.1
          clear FB BU 
          go_wp2
          exact bodyPost_ret (v := .tuple #[.agg #[.int .i64 0, .bool false], .int .i64 A, .bool false]) (by simp [results, Tryd.results28, go_sem, y0, y1]) rfl ⟨by rw [HC.out]; rfl, HB.out⟩
        | some s =>
          have hpt : ptV k t = .iface 88 (.string s) := by unfold ptV; rw [hw, hO]
          clear hw hO
          have ta0 := ta_wo s
          have PT : Hid (∀ V : World, Calls Tryd.prog 35 #[.agg #[.int .i64 k, .string t, .slice sv ks.length sw, .int .i64 a]] V fun e w' => e = .returned (.iface 88 (.string s)) ∧ Below V.heap.size V w') := fun V => by have q := part_any k t htz sv ks.length sw a V; rw [hpt] at q; exact q
          clear hpt
          go_enter Tryd.func28, Tryd.ntmps28
          go_wp2_with fail
          refine (PT.out _).mono ?_
          rintro e V ⟨rfl, hb⟩
          have BV : Hid (BS w [(w.heap.size + 1, [.int .i64 0, .bool false]), (w.heap.size, [.int .i64 k, .string t, .slice sv ks.length sw, .int .i64 a])] V) := (((BS.start w).new [.int .i64 k, .string t, .slice sv ks.length sw, .int .i64 a] 52 rfl).new [.int .i64 0, .bool false] 65 (b := w.heap.size + 1) (by simp)).below hb
          clear hb PT
          have e0 := (BV.out.at (w.heap.size + 1) [.int .i64 0, .bool false] (by simp)).c 0 rfl
          have e1 := (BV.out.at (w.heap.size + 1) [.int .i64 0, .bool false] (by simp)).c 1 rfl
          have z0 := (BV.out.at (w.heap.size + 1) [.int .i64 0, .bool false] (by simp)).f 0 rfl
          have z1 := (BV.out.at (w.heap.size + 1) [.int .i64 0, .bool false] (by simp)).f 1 rfl
          have hl1 := (BV.out.at (w.heap.size + 1) [.int .i64 0, .bool false] (by simp)).1
          have m2 := (BV.out.at (w.heap.size) [.int .i64 k, .string t, .slice sv ks.length sw, .int .i64 a] (by simp)).c 2 rfl
          have hl0 := (BV.out.at (w.heap.size) [.int .i64 k, .string t, .slice sv ks.length sw, .int .i64 a] (by simp)).1
          go_wp2_with fail
          refine (KC.out _ BV.out.1).mono ?_
          rintro e U ⟨hb, hU⟩
          rw [hL] at hU
          obtain rfl := hU
          have BU : Hid (BS w [(w.heap.size + 1, [.int .i64 0, .bool false]), (w.heap.size, [.int .i64 k, .string t, .slice sv ks.length sw, .int .i64 a])] U) := BV.out.below hb
          clear hb BV KC e0 e1 z0 z1 hl1 m2 hl0 hL
          have e0 := (BU.out.at (w.heap.size + 1) [.int .i64 0, .bool false] (by simp)).c 0 rfl
          have e1 := (BU.out.at (w.heap.size + 1) [.int .i64 0, .bool false] (by simp)).c 1 rfl
          have z0 := (BU.out.at (w.heap.size + 1) [.int .i64 0, .bool false] (by simp)).f 0 rfl
          have z1 := (BU.out.at (w.heap.size + 1) [.int .i64 0, .bool false] (by simp)).f 1 rfl
          have hl1 := (BU.out.at (w.heap.size + 1) [.int .i64 0, .bool false] (by simp)).1
          have FB := (BU.out.at (w.heap.size + 1) [.int .i64 0, .bool false] (by simp)).setAll [.int .i64 0, .bool false] rfl
          have y0 := FB.c 0 rfl
          have y1 := FB.c 1 rfl
          simp only [World.setCells, Nat.zero_add] at y0 y1
          have HB : Hid (Below w.heap.size w (U.setCells (w.heap.size + 1) 0 [.int .i64 0, .bool false])) := below_setCells (by omega) _ _ _ BU.out.1
          clear FB BU 
          go_wp2
          exact bodyPost_ret (v := .tuple #[.agg #[.int .i64 0, .bool false], .int .i64 A, .bool false]) (by simp [results, Tryd.results28, go_sem, y0, y1]) rfl ⟨by rw [HC.out]; rfl, HB.out⟩
      | inr args =>
        cases hO : opOf k t with
        | none =>
          have HC : Hid (chN (.mk k t ks a) = .inl a) := by show _ = _; rw [hch, hL, hO]; rfl
          have hpt : ptV k t = .nilIface := by unfold ptV; rw [hw, hO]
          clear hw hO hch HK
          have ta0 := ta_wn
          have ta1 := ta_on
          have PT : Hid (∀ V : World, Calls Tryd.prog 35 #[.agg #[.int .i64 k, .string t, .slice sv ks.length sw, .int .i64 a]] V fun e w' => e = .returned (.nilIface) ∧ Below V.heap.size V w') := fun V => by have q := part_any k t htz sv ks.length sw a V; rw [hpt] at q; exact q
          clear hpt
          go_enter Tryd.func28, Tryd.ntmps28
          go_wp2_with fail
          refine (PT.out _).mono ?_
          rintro e V ⟨rfl, hb⟩
          have BV : Hid (BS w [(w.heap.size + 1, [.int .i64 0, .bool false]), (w.heap.size, [.int .i64 k, .string t, .slice sv ks.length sw, .int .i64 a])] V) := (((BS.start w).new [.int .i64 k, .string t, .slice sv ks.length sw, .int .i64 a] 52 rfl).new [.int .i64 0, .bool false] 65 (b := w.heap.size + 1) (by simp)).below hb
          clear hb PT
          have e0 := (BV.out.at (w.heap.size + 1) [.int .i64 0, .bool false] (by simp)).c 0 rfl
          have e1 := (BV.out.at (w.heap.size + 1) [.int .i64 0, .bool false] (by simp)).c 1 rfl
          have z0 := (BV.out.at (w.heap.size + 1) [.int .i64 0, .bool false] (by simp)).f 0 rfl
          have z1 := (BV.out.at (w.heap.size + 1) [.int .i64 0, .bool false] (by simp)).f 1 rfl
          have hl1 := (BV.out.at (w.heap.size + 1) [.int .i64 0, .bool false] (by simp)).1
          have m2 := (BV.out.at (w.heap.size) [.int .i64 k, .string t, .slice sv ks.length sw, .int .i64 a] (by simp)).c 2 rfl
          have hl0 := (BV.out.at (w.heap.size) [.int .i64 k, .string t, .slice sv ks.length sw, .int .i64 a] (by simp)).1
          go_wp2_with fail
          refine (KC.out _ BV.out.1).mono ?_
          rintro e U ⟨hb, hU⟩
          rw [hL] at hU
          obtain ⟨v, rfl, hIR⟩ := hU
          have BU : Hid (BS w [(w.heap.size + 1, [.int .i64 0, .bool false]), (w.heap.size, [.int .i64 k, .string t, .slice sv ks.length sw, .int .i64 a])] U) := BV.out.below hb
          have HU : Hid (IR U v args) := hIR
          obtain ⟨vq, vc, hvv⟩ : ∃ q c, v = .slice q args.length c := by obtain ⟨p, c, e, _⟩ := hIR; exact ⟨p, c, e⟩
          subst hvv
          clear hIR
          clear hb BV KC e0 e1 z0 z1 hl1 m2 hl0 hL
          clear HU
          go_upto_region 13 with fail
          have BB : Hid (BS w [(w.heap.size, [.int .i64 k, .string t, .slice sv ks.length sw, .int .i64 a])] U) := BU.out.tail
          have e0 := (BU.out.at (w.heap.size + 1) [.int .i64 0, .bool false] (by simp)).c 0 rfl
          have e1 := (BU.out.at (w.heap.size + 1) [.int .i64 0, .bool false] (by simp)).c 1 rfl
          have z0 := (BU.out.at (w.heap.size + 1) [.int .i64 0, .bool false] (by simp)).f 0 rfl
          have z1 := (BU.out.at (w.heap.size + 1) [.int .i64 0, .bool false] (by simp)).f 1 rfl
          have hl1 := (BU.out.at (w.heap.size + 1) [.int .i64 0, .bool false] (by simp)).1
          have FB := (BU.out.at (w.heap.size + 1) [.int .i64 0, .bool false] (by simp)).setAll [.int .i64 0, .bool false] rfl
          have y0 := FB.c 0 rfl
          have y1 := FB.c 1 rfl
          simp only [World.setCells, Nat.zero_add] at y0 y1
          clear FB
          refine wp_region_held_drew (S := BS w [(w.heap.size, [.int .i64 k, .string t, .slice sv ks.length sw, .int .i64 a])]) (by kernel_rfl) (BB.out).drew (fun hHeld => ?_)
          refine wpAnyH_take (i := 0) (v := ?_) (oi := { dst := some 54, op := _, type := _, pos := _, after := _, guard := none }) rfl (by kernel_rfl) (by kernel_rfl) (by kernel_rfl) (fun _ _ _ h => h) (Or.inl ⟨by kernel_rfl, ?_⟩) (by assumption) ?_
          case refine_2 => (intro w9 hSw; clear hSw; go_simp; try with_reducible rfl)
          simp only [Act.put, List.setIfInBounds_toArray, List.set_cons_zero, List.set_cons_succ]
          refine wpAnyH_take (i := 1) (v := ?_) (oi := { dst := some 55, op := _, type := _, pos := _, after := _, guard := none }) rfl (by kernel_rfl) (by kernel_rfl) (by kernel_rfl) (fun _ _ _ h => h) (Or.inl ⟨by kernel_rfl, ?_⟩) (by assumption) ?_
          case refine_2 => (intro w9 hSw; clear hSw; go_simp; try with_reducible rfl)
          simp only [Act.put, List.setIfInBounds_toArray, List.set_cons_zero, List.set_cons_succ]
          refine wpAnyH_take (i := 2) (v := ?_) (oi := { dst := some 56, op := _, type := _, pos := _, after := _, guard := none }) rfl (by kernel_rfl) (by kernel_rfl) (by kernel_rfl) (fun _ _ _ h => h) (Or.inl ⟨by kernel_rfl, ?_⟩) (by assumption) ?_
          case refine_2 => (intro w9 hSw; have q3 := (hSw.at (w.heap.size) [.int .i64 k, .string t, .slice sv ks.length sw, .int .i64 a] (by simp)).c 3 rfl; have g3 := (hSw.at (w.heap.size) [.int .i64 k, .string t, .slice sv ks.length sw, .int .i64 a] (by simp)).1; clear hSw; go_simp; try with_reducible rfl)
          simp only [Act.put, List.setIfInBounds_toArray, List.set_cons_zero, List.set_cons_succ]
          refine wpAnyH_ready (rs := [3]) (by kernel_rfl) (by simp) (AllReadyH.cons (o := { dst := none, op := _, type := _, pos := _, after := _, guard := none }) rfl (fun K hK => ?_) AllReadyH.nil)
          go_simp
          refine hK.out _ _ (hHeld.off (b := w.heap.size + 1) (by omega) (by intro x hx; simp at hx; subst hx; simp) [.int .i64 0, .bool false]) (fun hHeld => ?_)
          clear hK K e0 e1 z0 z1 hl1
          refine wpAnyH_take (i := 4) (v := ?_) (oi := { dst := some 3, op := _, type := _, pos := _, after := _, guard := none }) rfl (by kernel_rfl) (by kernel_rfl) (by kernel_rfl) (fun _ _ _ h => h) (Or.inl ⟨by kernel_rfl, ?_⟩) (by assumption) ?_
          case refine_2 => (intro w9 hSw; clear hSw; go_simp; try with_reducible rfl)
          simp only [Act.put, List.setIfInBounds_toArray, List.set_cons_zero, List.set_cons_succ]
          refine wpAnyH_take (i := 5) (v := ?_) (oi := { dst := some 4, op := _, type := _, pos := _, after := _, guard := none }) rfl (by kernel_rfl) (by kernel_rfl) (by kernel_rfl) (fun _ _ _ h => h) (Or.inl ⟨by kernel_rfl, ?_⟩) (by assumption) ?_
          case refine_2 => (intro w9 hSw; clear hSw; go_simp; try with_reducible rfl)
          simp only [Act.put, List.setIfInBounds_toArray, List.set_cons_zero, List.set_cons_succ]
          refine wpAnyH_done (by kernel_rfl) ?_ _
          have HB : Hid (Below w.heap.size w _) := hHeld.1
          clear hHeld
          go_wp2
          exact bodyPost_ret (v := .tuple #[.agg #[.int .i64 0, .bool false], .int .i64 a, .bool false]) (by simp [results, Tryd.results28, go_sem, y0, y1]) rfl ⟨by rw [HC.out]; rfl, HB.out⟩
        | some s =>
          have hpt : ptV k t = .iface 88 (.string s) := by unfold ptV; rw [hw, hO]
          have ta0 := ta_wo s
          have ta1 := ta_oo s
          cases hF : finF s args with
          | none =>
            have HC : Hid (chN (.mk k t ks a) = .inl a) := by show _ = _; rw [hch, hL, hO]; show apO (some s) args a = _; unfold apO; simp only [hF]
            clear hw hO hch
            have PT : Hid (∀ V : World, Calls Tryd.prog 35 #[.agg #[.int .i64 k, .string t, .slice sv ks.length sw, .int .i64 a]] V fun e w' => e = .returned (.iface 88 (.string s)) ∧ Below V.heap.size V w') := fun V => by have q := part_any k t htz sv ks.length sw a V; rw [hpt] at q; exact q
            clear hpt
            go_enter Tryd.func28, Tryd.ntmps28
            go_wp2_with fail
            refine (PT.out _).mono ?_
            rintro e V ⟨rfl, hb⟩
            have BV : Hid (BS w [(w.heap.size + 1, [.int .i64 0, .bool false]), (w.heap.size, [.int .i64 k, .string t, .slice sv ks.length sw, .int .i64 a])] V) := (((BS.start w).new [.int .i64 k, .string t, .slice sv ks.length sw, .int .i64 a] 52 rfl).new [.int .i64 0, .bool false] 65 (b := w.heap.size + 1) (by simp)).below hb
            clear hb PT
            have e0 := (BV.out.at (w.heap.size + 1) [.int .i64 0, .bool false] (by simp)).c 0 rfl
            have e1 := (BV.out.at (w.heap.size + 1) [.int .i64 0, .bool false] (by simp)).c 1 rfl
            have z0 := (BV.out.at (w.heap.size + 1) [.int .i64 0, .bool false] (by simp)).f 0 rfl
            have z1 := (BV.out.at (w.heap.size + 1) [.int .i64 0, .bool false] (by simp)).f 1 rfl
            have hl1 := (BV.out.at (w.heap.size + 1) [.int .i64 0, .bool false] (by simp)).1
            have m2 := (BV.out.at (w.heap.size) [.int .i64 k, .string t, .slice sv ks.length sw, .int .i64 a] (by simp)).c 2 rfl
            have hl0 := (BV.out.at (w.heap.size) [.int .i64 k, .string t, .slice sv ks.length sw, .int .i64 a] (by simp)).1
            go_wp2_with fail
            refine (KC.out _ BV.out.1).mono ?_
            rintro e U ⟨hb, hU⟩
            rw [hL] at hU
            obtain ⟨v, rfl, hIR⟩ := hU
            have BU : Hid (BS w [(w.heap.size + 1, [.int .i64 0, .bool false]), (w.heap.size, [.int .i64 k, .string t, .slice sv ks.length sw, .int .i64 a])] U) := BV.out.below hb
            have HU : Hid (IR U v args) := hIR
            obtain ⟨vq, vc, hvv⟩ : ∃ q c, v = .slice q args.length c := by obtain ⟨p, c, e, _⟩ := hIR; exact ⟨p, c, e⟩
            subst hvv
            clear hIR
            clear hb BV KC e0 e1 z0 z1 hl1 m2 hl0 hL
            go_wp2_with fail
            refine (find_any s args _ U (HK.out.below BU.out.1) HU.out).mono ?_
            rw [hF]
            simp only [finV]
            rintro e U2 ⟨rfl, hb⟩
            have B2 : Hid (BS w [(w.heap.size + 1, [.int .i64 0, .bool false]), (w.heap.size, [.int .i64 k, .string t, .slice sv ks.length sw, .int .i64 a])] U2) := BU.out.below hb
            clear hb BU HU HK hF
            go_upto_region 13 with fail
            have BB : Hid (BS w [(w.heap.size, [.int .i64 k, .string t, .slice sv ks.length sw, .int .i64 a])] U2) := B2.out.tail
            have e0 := (B2.out.at (w.heap.size + 1) [.int .i64 0, .bool false] (by simp)).c 0 rfl
            have e1 := (B2.out.at (w.heap.size + 1) [.int .i64 0, .bool false] (by simp)).c 1 rfl
            have z0 := (B2.out.at (w.heap.size + 1) [.int .i64 0, .bool false] (by simp)).f 0 rfl
            have z1 := (B2.out.at (w.heap.size + 1) [.int .i64 0, .bool false] (by simp)).f 1 rfl
            have hl1 := (B2.out.at (w.heap.size + 1) [.int .i64 0, .bool false] (by simp)).1
            have FB := (B2.out.at (w.heap.size + 1) [.int .i64 0, .bool false] (by simp)).setAll [.int .i64 0, .bool false] rfl
            have y0 := FB.c 0 rfl
            have y1 := FB.c 1 rfl
            simp only [World.setCells, Nat.zero_add] at y0 y1
            clear FB
            refine wp_region_held_drew (S := BS w [(w.heap.size, [.int .i64 k, .string t, .slice sv ks.length sw, .int .i64 a])]) (by kernel_rfl) (BB.out).drew (fun hHeld => ?_)
            refine wpAnyH_take (i := 0) (v := ?_) (oi := { dst := some 54, op := _, type := _, pos := _, after := _, guard := none }) rfl (by kernel_rfl) (by kernel_rfl) (by kernel_rfl) (fun _ _ _ h => h) (Or.inl ⟨by kernel_rfl, ?_⟩) (by assumption) ?_
            case refine_2 => (intro w9 hSw; clear hSw; go_simp; try with_reducible rfl)
            simp only [Act.put, List.setIfInBounds_toArray, List.set_cons_zero, List.set_cons_succ]
            refine wpAnyH_take (i := 1) (v := ?_) (oi := { dst := some 55, op := _, type := _, pos := _, after := _, guard := none }) rfl (by kernel_rfl) (by kernel_rfl) (by kernel_rfl) (fun _ _ _ h => h) (Or.inl ⟨by kernel_rfl, ?_⟩) (by assumption) ?_
            case refine_2 => (intro w9 hSw; clear hSw; go_simp; try with_reducible rfl)
            simp only [Act.put, List.setIfInBounds_toArray, List.set_cons_zero, List.set_cons_succ]
            refine wpAnyH_take (i := 2) (v := ?_) (oi := { dst := some 56, op := _, type := _, pos := _, after := _, guard := none }) rfl (by kernel_rfl) (by kernel_rfl) (by kernel_rfl) (fun _ _ _ h => h) (Or.inl ⟨by kernel_rfl, ?_⟩) (by assumption) ?_
            case refine_2 => (intro w9 hSw; have q3 := (hSw.at (w.heap.size) [.int .i64 k, .string t, .slice sv ks.length sw, .int .i64 a] (by simp)).c 3 rfl; have g3 := (hSw.at (w.heap.size) [.int .i64 k, .string t, .slice sv ks.length sw, .int .i64 a] (by simp)).1; clear hSw; go_simp; try with_reducible rfl)
            simp only [Act.put, List.setIfInBounds_toArray, List.set_cons_zero, List.set_cons_succ]
            refine wpAnyH_ready (rs := [3]) (by kernel_rfl) (by simp) (AllReadyH.cons (o := { dst := none, op := _, type := _, pos := _, after := _, guard := none }) rfl (fun K hK => ?_) AllReadyH.nil)
            go_simp
            refine hK.out _ _ (hHeld.off (b := w.heap.size + 1) (by omega) (by intro x hx; simp at hx; subst hx; simp) [.int .i64 0, .bool false]) (fun hHeld => ?_)
            clear hK K e0 e1 z0 z1 hl1
            refine wpAnyH_take (i := 4) (v := ?_) (oi := { dst := some 3, op := _, type := _, pos := _, after := _, guard := none }) rfl (by kernel_rfl) (by kernel_rfl) (by kernel_rfl) (fun _ _ _ h => h) (Or.inl ⟨by kernel_rfl, ?_⟩) (by assumption) ?_
            case refine_2 => (intro w9 hSw; clear hSw; go_simp; try with_reducible rfl)
            simp only [Act.put, List.setIfInBounds_toArray, List.set_cons_zero, List.set_cons_succ]
            refine wpAnyH_take (i := 5) (v := ?_) (oi := { dst := some 4, op := _, type := _, pos := _, after := _, guard := none }) rfl (by kernel_rfl) (by kernel_rfl) (by kernel_rfl) (fun _ _ _ h => h) (Or.inl ⟨by kernel_rfl, ?_⟩) (by assumption) ?_
            case refine_2 => (intro w9 hSw; clear hSw; go_simp; try with_reducible rfl)
            simp only [Act.put, List.setIfInBounds_toArray, List.set_cons_zero, List.set_cons_succ]
            refine wpAnyH_done (by kernel_rfl) ?_ _
            have HB : Hid (Below w.heap.size w _) := hHeld.1
            clear hHeld
            go_wp2
            exact bodyPost_ret (v := .tuple #[.agg #[.int .i64 0, .bool false], .int .i64 a, .bool false]) (by simp [results, Tryd.results28, go_sem, y0, y1]) rfl ⟨by rw [HC.out]; rfl, HB.out⟩
          | some r =>
            have HC : Hid (chN (.mk k t ks a) = .inr (r, decide (s = srs))) := by show _ = _; rw [hch, hL, hO]; show apO (some s) args a = _; unfold apO; simp only [hF]
            obtain ⟨l, hl⟩ : ∃ l, decide (s = srs) = l := ⟨_, rfl⟩
            rw [hl] at HC
            clear hw hO hch
            have PT : Hid (∀ V : World, Calls Tryd.prog 35 #[.agg #[.int .i64 k, .string t, .slice sv ks.length sw, .int .i64 a]] V fun e w' => e = .returned (.iface 88 (.string s)) ∧ Below V.heap.size V w') := fun V => by have q := part_any k t htz sv ks.length sw a V; rw [hpt] at q; exact q
            clear hpt
            go_enter Tryd.func28, Tryd.ntmps28
            go_wp2_with fail
            refine (PT.out _).mono ?_
            rintro e V ⟨rfl, hb⟩
            have BV : Hid (BS w [(w.heap.size + 1, [.int .i64 0, .bool false]), (w.heap.size, [.int .i64 k, .string t, .slice sv ks.length sw, .int .i64 a])] V) := (((BS.start w).new [.int .i64 k, .string t, .slice sv ks.length sw, .int .i64 a] 52 rfl).new [.int .i64 0, .bool false] 65 (b := w.heap.size + 1) (by simp)).below hb
            clear hb PT
            have e0 := (BV.out.at (w.heap.size + 1) [.int .i64 0, .bool false] (by simp)).c 0 rfl
            have e1 := (BV.out.at (w.heap.size + 1) [.int .i64 0, .bool false] (by simp)).c 1 rfl
            have z0 := (BV.out.at (w.heap.size + 1) [.int .i64 0, .bool false] (by simp)).f 0 rfl
            have z1 := (BV.out.at (w.heap.size + 1) [.int .i64 0, .bool false] (by simp)).f 1 rfl
            have hl1 := (BV.out.at (w.heap.size + 1) [.int .i64 0, .bool false] (by simp)).1
            have m2 := (BV.out.at (w.heap.size) [.int .i64 k, .string t, .slice sv ks.length sw, .int .i64 a] (by simp)).c 2 rfl
            have hl0 := (BV.out.at (w.heap.size) [.int .i64 k, .string t, .slice sv ks.length sw, .int .i64 a] (by simp)).1
            go_wp2_with fail
            refine (KC.out _ BV.out.1).mono ?_
            rintro e U ⟨hb, hU⟩
            rw [hL] at hU
            obtain ⟨v, rfl, hIR⟩ := hU
            have BU : Hid (BS w [(w.heap.size + 1, [.int .i64 0, .bool false]), (w.heap.size, [.int .i64 k, .string t, .slice sv ks.length sw, .int .i64 a])] U) := BV.out.below hb
            have HU : Hid (IR U v args) := hIR
            obtain ⟨vq, vc, hvv⟩ : ∃ q c, v = .slice q args.length c := by obtain ⟨p, c, e, _⟩ := hIR; exact ⟨p, c, e⟩
            subst hvv
            clear hIR
            clear hb BV KC e0 e1 z0 z1 hl1 m2 hl0 hL
            go_wp2_with fail
            refine (find_any s args _ U (HK.out.below BU.out.1) HU.out).mono ?_
            rw [hF]
            simp only [finV, hl]
            rintro e U2 ⟨rfl, hb⟩
            have B2 : Hid (BS w [(w.heap.size + 1, [.int .i64 0, .bool false]), (w.heap.size, [.int .i64 k, .string t, .slice sv ks.length sw, .int .i64 a])] U2) := BU.out.below hb
            clear hb BU HU HK hF hl
            have e0 := (B2.out.at (w.heap.size + 1) [.int .i64 0, .bool false] (by simp)).c 0 rfl
            have e1 := (B2.out.at (w.heap.size + 1) [.int .i64 0, .bool false] (by simp)).c 1 rfl
            have z0 := (B2.out.at (w.heap.size + 1) [.int .i64 0, .bool false] (by simp)).f 0 rfl
            have z1 := (B2.out.at (w.heap.size + 1) [.int .i64 0, .bool false] (by simp)).f 1 rfl
            have hl1 := (B2.out.at (w.heap.size + 1) [.int .i64 0, .bool false] (by simp)).1
            have FB := (B2.out.at (w.heap.size + 1) [.int .i64 0, .bool false] (by simp)).setAll [.int .i64 r, .bool l] rfl
            have y0 := FB.c 0 rfl
            have y1 := FB.c 1 rfl
            simp only [World.setCells, Nat.zero_add] at y0 y1
            have HB : Hid (Below w.heap.size w (U2.setCells (w.heap.size + 1) 0 [.int .i64 r, .bool l])) := below_setCells (by omega) _ _ _ B2.out.1
            clear FB B2 
            go_wp2
            exact bodyPost_ret (v := .tuple #[.agg #[.int .i64 r, .bool l], .int .i64 0, .bool true]) (by simp [results, Tryd.results28, go_sem, y0, y1]) rfl ⟨by rw [HC.out]; rfl, HB.out⟩

end Go.Proofs.YtcmefhnfdcngfaaDoor
