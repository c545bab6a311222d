/- expr.Parse of any text that is not too long. -/
import Derived.Test.YtaoocecipacnhaaDoorExHq
namespace Go.Proofs.YtaoocecipacnhaaDoor
open Go.RowKit
set_option linter.unusedVariables false

/-- what Parse hands back. -/
def ParOf (X : Nat → Prop) (e : Ending) (w' : World) : Sum (Int × Int) Nd → Prop
  | .inl x => e = .returned (.tuple #[.agg #[.int .i64 0, .string ⟨#[]⟩, .slice none 0 0, .int .i64 0], .int .i64 x.1, .int .i64 x.2])
  | .inr n => ∃ k t sq sn sc a, e = .returned (.tuple #[.agg #[.int .i64 k, .string t, .slice sq sn sc, .int .i64 a], .int .i64 0, .int .i64 0]) ∧ NdAt X w' n [.int .i64 k, .string t, .slice sq sn sc, .int .i64 a]
/-- it has failed. -/
def PQ (w : World) (g : Nat) (a e : Int) (U : World) : Prop := Below w.heap.size w U ∧ Bx U w.heap.size [.int .i64 0, .string ⟨#[]⟩, .slice none 0 0, .int .i64 0] ∧ PF g U 0 a e
theorem PQ.set {w : World} {g : Nat} {a e : Int} {U : World} (h : PQ w g a e U) (hg : g ≠ w.heap.size) : PQ w g a e (U.setCells w.heap.size 0 [.int .i64 0, .string ⟨#[]⟩, .slice none 0 0, .int .i64 0]) := by
  obtain ⟨q1, q2, q3, q4⟩ := fin4 (g := w.heap.size) [] (.int .i64 0) (.string ⟨#[]⟩) (.slice none 0 0) (.int .i64 0) (Kp.of h.1) (Nat.le_refl _) h.2.1
  exact ⟨q1.below (Nat.le_refl _) (Nat.le_refl _), q2, h.2.2.off q3 q4 hg⟩
theorem PQ.drew {w : World} {g : Nat} {a e : Int} {U : World} (h : PQ w g a e U) : PQ w g a e U.drew := ⟨h.1.drew, h.2⟩
/-- it has ended well. -/
def PG (w : World) (r : Nat) (n : Nd) (cs : List Value) (U : World) : Prop := Below w.heap.size w U ∧ Bx U w.heap.size [.int .i64 0, .string ⟨#[]⟩, .slice none 0 0, .int .i64 0] ∧ Bx U r cs ∧ NdAt (fun c => w.heap.size < c) U n cs

set_option maxRecDepth 100000 in
set_option maxHeartbeats 4000000 in
theorem parse_any (s : ByteArray) (m : Int) (w : World) (hT : Tabs w) (hm : w.cell? ⟨2, 0, none⟩ = some (.int .i64 m)) (h2 : 2 < w.heap.size) (hsz : s.size ≤ 2048) :
    Calls Tryd.prog 5 #[.string s] w fun e w' => Below w.heap.size w w' ∧ ParOf (fun c => w.heap.size < c) e w' (parseB s) := by
  obtain ⟨R, hR⟩ : ∃ R, R = parseB s := ⟨_, rfl⟩
  rw [← hR]
  go_enter Tryd.func5, Tryd.ntmps5
  go_wp2_with fail
  have B0 : Hid (BS w [(w.heap.size, [.int .i64 0, .string ⟨#[]⟩, .slice none 0 0, .int .i64 0])] _) := ((BS.start w).new [.int .i64 0, .string ⟨#[]⟩, .slice none 0 0, .int .i64 0] 24 rfl)
  refine (tokens_any s m _ (Tabs_below hT B0.out.1) ((B0.out.1.cell (p := ⟨2, 0, none⟩) h2).trans hm) (by simp; omega) hsz).mono ?_
  rintro e V ⟨hb, ht⟩
  have BV : Hid (BS w [(w.heap.size, [.int .i64 0, .string ⟨#[]⟩, .slice none 0 0, .int .i64 0])] V) := B0.out.below hb
  have hrV : w.heap.size < V.heap.size := BV.out.first.1
  clear hb B0
  cases hs : toksB s with
  | inl x =>
    rw [hs] at ht
    obtain rfl := ht
    have HR : Hid (R = .inl x) := by show _ = _; rw [hR]; unfold parseB; rw [hs]
    have hx := toksB_err hs
    have hx2 : (x.2 == 0) = false := by rcases hx with h | h <;> rw [h] <;> rfl
    have HQ := fin4 (g := w.heap.size) [] (.int .i64 0) (.string ⟨#[]⟩) (.slice none 0 0) (.int .i64 0) (Kp.of BV.out.1) (Nat.le_refl _) BV.out.first
    obtain ⟨k1, k2, -, -⟩ := HQ
    have y0 := k2.c 0 rfl
    have y1 := k2.c 1 rfl
    have y2 := k2.c 2 rfl
    have y3 := k2.c 3 rfl
    have HK : Hid _ := k1
    simp only [List.foldl, World.setCells, Nat.zero_add, Nat.reduceAdd] at y0 y1 y2 y3
    have c0 := BV.out.first.c 0 rfl
    have c1 := BV.out.first.c 1 rfl
    have c2 := BV.out.first.c 2 rfl
    have c3 := BV.out.first.c 3 rfl
    have z0 := BV.out.first.f 0 rfl
    have z1 := BV.out.first.f 1 rfl
    have z2 := BV.out.first.f 2 rfl
    have z3 := BV.out.first.f 3 rfl
    clear hR hs hx k1 k2
    go_wp2
    exact bodyPost_ret (v := .tuple #[.agg #[.int .i64 0, .string ⟨#[]⟩, .slice none 0 0, .int .i64 0], .int .i64 x.1, .int .i64 x.2]) (by simp [results, Tryd.results5, go_sem, y0, y1, y2, y3]) rfl ⟨HK.out.below (Nat.le_refl _) (Nat.le_refl _), by rw [HR.out]; rfl⟩
  | inr T =>
    rw [hs] at ht
    obtain ⟨u, rfl, hown⟩ := ht
    obtain ⟨hE, hTl⟩ := toksB_end hs hsz
    have HR : Hid (R = endT (par (10 * T.length + 10) (.lv 0) 0 T)) := by show _ = _; rw [hR]; unfold parseB; rw [hs]
    clear hR hs
    obtain ⟨b, cap, cur, rfl, h1, h3, h4, h5, h6, h7⟩ : ∃ g cap cur, u = .slice (some ⟨g, 0, none⟩) T.length cap ∧ w.heap.size + 1 ≤ g ∧ V.heap[g]? = some (.cells cur 81 (0, 0)) ∧ T.length ≤ cap ∧ cap ≤ maxLen ∧ cur.size = cap * 3 ∧ cur.toList.take (T.length * 3) = flatT T := by
      rcases hown.2 with ⟨_, h0⟩ | q
      · obtain ⟨p, l, rfl⟩ := hE.cons
        simp at h0
      · simpa using q
    have hbV : b < V.heap.size := (Array.getElem?_eq_some_iff.1 h3).1
    have HTR : Hid (TR V b T) := ⟨hbV, fun i v hv => by
      have hi := (List.getElem?_eq_some_iff.1 hv).1
      rw [hown.1] at hi
      rw [hown.cellAt i hi]; exact hv⟩
    have HE : Hid (EndL T) := hE
    clear hown h3 h6 h7 hE
    go_wp2_with fail
    have B1 : Hid (BS V [(V.heap.size, [.slice (some ⟨b, 0, none⟩) T.length cap, .int .i64 0, .int .i64 0, .int .i64 0])] _) := (BS.start V).new [.slice (some ⟨b, 0, none⟩) T.length cap, .int .i64 0, .int .i64 0, .int .i64 0] 45 rfl
    have HPS : Hid (PS V.heap.size b cap T _ T 0) := ⟨⟨[], 0, 0, rfl, by simpa using B1.out.first⟩, HTR.out.kp (Kp.of (g := V.heap.size) B1.out.1) (by omega), by omega, h4, h5⟩
    refine (whole_any V.heap.size b cap T HE.out (by omega) _ HPS.out).mono ?_
    rintro e W2 ⟨hk, hwh⟩
    have hzW : V.heap.size < W2.heap.size := by have := hk.size; simp at this; omega
    have BW : Hid (BS w [(w.heap.size, [.int .i64 0, .string ⟨#[]⟩, .slice none 0 0, .int .i64 0])] W2) := BV.out.below (B1.out.1.trans (hk.below (B := V.heap.size) (Nat.le_refl _) (by simp)))
    clear hk HPS B1 HTR HE BV
    cases hp : endT (par (10 * T.length + 10) (.lv 0) 0 T) with
    | inl x =>
      rw [hp] at hwh HR
      obtain ⟨hpf, rfl⟩ := hwh
      have HPF : Hid (PF V.heap.size W2 0 x.1 x.2) := hpf
      clear hpf hp
      go_upto_region 7 with fail
      refine gen_to (PQ w V.heap.size x.1 x.2) ⟨(BW.out.below ((Below.refl _ W2).alloc (Nat.le_refl _) _)).1, (BW.out.below ((Below.refl _ W2).alloc (Nat.le_refl _) _)).first, HPF.out.keep (by simp) (Below.heap_alloc _ _ _ hzW)⟩ ?_
      intro U hU
      have HU : Hid (PQ w V.heap.size x.1 x.2 U) := hU
      have hgr : V.heap.size ≠ w.heap.size := by omega
      clear hU BW HPF
      refine wp_region_held_drew (S := PQ w V.heap.size x.1 x.2) (by kernel_rfl) HU.out.drew (fun hHeld => ?_)
      refine wpAnyH_take (i := 0) (v := ?_) (oi := { dst := some 30, op := _, type := _, pos := _, after := _, guard := none }) rfl (by kernel_rfl) (by kernel_rfl) (by kernel_rfl) (fun _ _ _ h => h) (Or.inl ⟨by kernel_rfl, ?_⟩) (by assumption) ?_
      case refine_2 => (intro w9 hSw; clear hSw; go_simp; try with_reducible rfl)
      simp only [Act.put, List.setIfInBounds_toArray, List.set_cons_zero, List.set_cons_succ]
      refine wpAnyH_take (i := 1) (v := ?_) (oi := { dst := some 31, op := _, type := _, pos := _, after := _, guard := none }) rfl (by kernel_rfl) (by kernel_rfl) (by kernel_rfl) (fun _ _ _ h => h) (Or.inl ⟨by kernel_rfl, ?_⟩) (by assumption) ?_
      case refine_2 => (intro w9 hSw; clear hSw; go_simp; try with_reducible rfl)
      simp only [Act.put, List.setIfInBounds_toArray, List.set_cons_zero, List.set_cons_succ]
      refine wpAnyH_take (i := 2) (v := ?_) (oi := { dst := some 32, op := _, type := _, pos := _, after := _, guard := none }) rfl (by kernel_rfl) (by kernel_rfl) (by kernel_rfl) (fun _ _ _ h => h) (Or.inl ⟨by kernel_rfl, ?_⟩) (by assumption) ?_
      case refine_2 => (intro w9 hSw; obtain ⟨-, -, left, hpb, -⟩ := hSw; have q2 := hpb.c 2 rfl; have q3 := hpb.c 3 rfl; have qg := hpb.1; clear hpb; go_simp; try with_reducible rfl)
      simp only [Act.put, List.setIfInBounds_toArray, List.set_cons_zero, List.set_cons_succ]
      refine wpAnyH_take (i := 3) (v := ?_) (oi := { dst := some 33, op := _, type := _, pos := _, after := _, guard := none }) rfl (by kernel_rfl) (by kernel_rfl) (by kernel_rfl) (fun _ _ _ h => h) (Or.inl ⟨by kernel_rfl, ?_⟩) (by assumption) ?_
      case refine_2 => (intro w9 hSw; clear hSw; go_simp; try with_reducible rfl)
      simp only [Act.put, List.setIfInBounds_toArray, List.set_cons_zero, List.set_cons_succ]
      refine wpAnyH_take (i := 4) (v := ?_) (oi := { dst := some 34, op := _, type := _, pos := _, after := _, guard := none }) rfl (by kernel_rfl) (by kernel_rfl) (by kernel_rfl) (fun _ _ _ h => h) (Or.inl ⟨by kernel_rfl, ?_⟩) (by assumption) ?_
      case refine_2 => (intro w9 hSw; obtain ⟨-, -, left, hpb, -⟩ := hSw; have q2 := hpb.c 2 rfl; have q3 := hpb.c 3 rfl; have qg := hpb.1; clear hpb; go_simp; try with_reducible rfl)
      simp only [Act.put, List.setIfInBounds_toArray, List.set_cons_zero, List.set_cons_succ]
      refine wpAnyH_ready (rs := [5]) (by kernel_rfl) (by simp) (AllReadyH.cons (o := { dst := none, op := _, type := _, pos := _, after := _, guard := none }) rfl (fun K hK => ?_) AllReadyH.nil)
      have y0 := HU.out.2.1.c 0 rfl
      have y1 := HU.out.2.1.c 1 rfl
      have y2 := HU.out.2.1.c 2 rfl
      have y3 := HU.out.2.1.c 3 rfl
      have z0 := HU.out.2.1.f 0 rfl
      have z1 := HU.out.2.1.f 1 rfl
      have z2 := HU.out.2.1.f 2 rfl
      have z3 := HU.out.2.1.f 3 rfl
      have hB9 := HU.out.2.1.1
      go_simp
      refine hK.out _ _ (PQ.set hHeld hgr) (fun hHeld2 => ?_)
      clear hK K y0 y1 y2 y3 z0 z1 z2 z3 hB9 hHeld
      have hHeld := hHeld2
      clear hHeld2
      refine wpAnyH_take (i := 6) (v := ?_) (oi := { dst := some 3, op := _, type := _, pos := _, after := _, guard := none }) rfl (by kernel_rfl) (by kernel_rfl) (by kernel_rfl) (fun _ _ _ h => h) (Or.inl ⟨by kernel_rfl, ?_⟩) (by assumption) ?_
      case refine_2 => (intro w9 hSw; clear hSw; go_simp; try with_reducible rfl)
      simp only [Act.put, List.setIfInBounds_toArray, List.set_cons_zero, List.set_cons_succ]
      refine wpAnyH_take (i := 7) (v := ?_) (oi := { dst := some 4, op := _, type := _, pos := _, after := _, guard := none }) rfl (by kernel_rfl) (by kernel_rfl) (by kernel_rfl) (fun _ _ _ h => h) (Or.inl ⟨by kernel_rfl, ?_⟩) (by assumption) ?_
      case refine_2 => (intro w9 hSw; clear hSw; go_simp; try with_reducible rfl)
      simp only [Act.put, List.setIfInBounds_toArray, List.set_cons_zero, List.set_cons_succ]
      refine wpAnyH_done (by kernel_rfl) ?_ _
      have HH : Hid _ := hHeld
      obtain ⟨hh1, hh2, hh3⟩ := hHeld
      have y0 := hh2.c 0 rfl
      have y1 := hh2.c 1 rfl
      have y2 := hh2.c 2 rfl
      have y3 := hh2.c 3 rfl
      clear hh1 hh2 hh3
      go_wp2
      exact bodyPost_ret (v := .tuple #[.agg #[.int .i64 0, .string ⟨#[]⟩, .slice none 0 0, .int .i64 0], .int .i64 x.1, .int .i64 x.2]) (by simp [results, Tryd.results5, go_sem, y0, y1, y2, y3]) rfl ⟨HH.out.1, by rw [HR.out]; rfl⟩
    | inr n =>
      rw [hp] at hwh HR
      obtain ⟨k, t, sq, sn, sc, a, rfl, hnd⟩ := hwh
      have HN : Hid _ := hnd
      clear hnd hp
      go_upto_region 8 with fail
      refine gen_to (PG w W2.heap.size n [.int .i64 k, .string t, .slice sq sn sc, .int .i64 a]) ⟨(BW.out.below ((Below.refl _ W2).alloc (Nat.le_refl _) _)).1, (BW.out.below ((Below.refl _ W2).alloc (Nat.le_refl _) _)).first, Bx.new W2 [.int .i64 k, .string t, .slice sq sn sc, .int .i64 a] 24, NdAt.keep (by simp) (fun c hc hl => ⟨by simp at hc; omega, Below.heap_alloc _ _ _ hl⟩) _ _ HN.out⟩ ?_
      intro U hU
      have HU : Hid (PG w W2.heap.size n [.int .i64 k, .string t, .slice sq sn sc, .int .i64 a] U) := hU
      obtain ⟨u1, u2, u3, u4⟩ := hU
      obtain ⟨k1, k2, k3, k4⟩ := fin4 (g := w.heap.size) [] (.int .i64 k) (.string t) (.slice sq sn sc) (.int .i64 a) (Kp.of u1) (Nat.le_refl _) u2
      have HNF : Hid _ := NdAt.off u4 k3 k4 (Y := fun c => w.heap.size < c) (fun c hc => ⟨hc, by omega⟩)
      have HK : Hid _ := k1
      have hrU := u2.1
      have hnU := u3.1
      have y0 := k2.c 0 rfl
      have y1 := k2.c 1 rfl
      have y2 := k2.c 2 rfl
      have y3 := k2.c 3 rfl
      simp only [List.foldl, World.setCells, Nat.zero_add, Nat.reduceAdd] at y0 y1 y2 y3
      have c0 := u2.c 0 rfl
      have c1 := u2.c 1 rfl
      have c2 := u2.c 2 rfl
      have c3 := u2.c 3 rfl
      have z0 := u2.f 0 rfl
      have z1 := u2.f 1 rfl
      have z2 := u2.f 2 rfl
      have z3 := u2.f 3 rfl
      have d0 := u3.c 0 rfl
      have d1 := u3.c 1 rfl
      have d2 := u3.c 2 rfl
      have d3 := u3.c 3 rfl
      clear u1 u2 u3 u4 k1 k2 k3 k4 HU HN BW
      go_wp2
      exact bodyPost_ret (v := .tuple #[.agg #[.int .i64 k, .string t, .slice sq sn sc, .int .i64 a], .int .i64 0, .int .i64 0]) (by simp [results, Tryd.results5, go_sem, y0, y1, y2, y3]) rfl ⟨HK.out.below (Nat.le_refl _) (Nat.le_refl _), by rw [HR.out]; exact ⟨_, _, _, _, _, _, rfl, HNF.out⟩⟩

set_option maxRecDepth 100000 in
set_option maxHeartbeats 4000000 in
theorem tokens_long (s : ByteArray) (w : World) (hs : s.size ≤ maxLen) (hsz : ¬ s.size ≤ 2048) :
    Calls Tryd.prog 14 #[.string s] w fun e w' => e = .returned (.tuple #[.slice none 0 0, .int .i64 0, .int .i64 3]) ∧ w' = w := by
  go_enter Tryd.func14, Tryd.ntmps14
  go_wp2_with fail
  refine (wsplit_long s w hs hsz).mono ?_
  rintro e V ⟨rfl, rfl⟩
  go_wp2
  exact bodyPost_ret (v := .tuple #[.slice none 0 0, .int .i64 0, .int .i64 3]) (by simp [results, Tryd.results14, go_sem]) rfl ⟨rfl, rfl⟩

set_option maxRecDepth 100000 in
set_option maxHeartbeats 4000000 in
theorem parse_long (s : ByteArray) (w : World) (hs : s.size ≤ maxLen) (hsz : ¬ s.size ≤ 2048) :
    Calls Tryd.prog 5 #[.string s] w fun e w' => Below w.heap.size w w' ∧ e = .returned (.tuple #[.agg #[.int .i64 0, .string ⟨#[]⟩, .slice none 0 0, .int .i64 0], .int .i64 0, .int .i64 3]) := by
  go_enter Tryd.func5, Tryd.ntmps5
  go_wp2_with fail
  refine (tokens_long s _ hs hsz).mono ?_
  rintro e V ⟨rfl, hV⟩
  have BV : Hid (BS w [(w.heap.size, [.int .i64 0, .string ⟨#[]⟩, .slice none 0 0, .int .i64 0])] V) := by rw [hV]; exact ((BS.start w).new [.int .i64 0, .string ⟨#[]⟩, .slice none 0 0, .int .i64 0] 24 rfl)
  clear hV
  have hrV : w.heap.size < V.heap.size := BV.out.first.1
  obtain ⟨k1, k2, -, -⟩ := fin4 (g := w.heap.size) [] (.int .i64 0) (.string ⟨#[]⟩) (.slice none 0 0) (.int .i64 0) (Kp.of BV.out.1) (Nat.le_refl _) BV.out.first
  have y0 := k2.c 0 rfl
  have y1 := k2.c 1 rfl
  have y2 := k2.c 2 rfl
  have y3 := k2.c 3 rfl
  have HK : Hid _ := k1
  simp only [List.foldl, World.setCells, Nat.zero_add, Nat.reduceAdd] at y0 y1 y2 y3
  have c0 := BV.out.first.c 0 rfl
  have c1 := BV.out.first.c 1 rfl
  have c2 := BV.out.first.c 2 rfl
  have c3 := BV.out.first.c 3 rfl
  have z0 := BV.out.first.f 0 rfl
  have z1 := BV.out.first.f 1 rfl
  have z2 := BV.out.first.f 2 rfl
  have z3 := BV.out.first.f 3 rfl
  clear k1 k2
  go_wp2
  exact bodyPost_ret (v := .tuple #[.agg #[.int .i64 0, .string ⟨#[]⟩, .slice none 0 0, .int .i64 0], .int .i64 0, .int .i64 3]) (by simp [results, Tryd.results5, go_sem, y0, y1, y2, y3]) rfl ⟨HK.out.below (Nat.le_refl _) (Nat.le_refl _), rfl⟩

end Go.Proofs.YtaoocecipacnhaaDoor
