import Derived.Test.YtcmefhnfdcngfaaDoorK31
import Derived.Test.YtcmefhnfdcngfaaDoorK30
import Derived.Test.YtcmefhnfdcngfaaDoorK41
/- expr.write, String of any node. -/
namespace Go.Proofs.YtcmefhnfdcngfaaDoor
open Go.RowKit
set_option linter.unusedVariables false
set_option linter.unusedSimpArgs false

end Go.Proofs.YtcmefhnfdcngfaaDoor
/- The places that expr.Parse names: within the text (mathematics). -/
namespace Go.Proofs.YtcmefhnfdcngfaaDoor
open Go.RowKit
set_option linter.unusedVariables false

theorem split_lt (s : ByteArray) : ∀ (f pos : Nat) (l : List Prt) (a : Int) (i : Nat), splitF s f pos l a = .inl i → i < s.size
  | 0, pos, l, a, i, h => by simp [splitF] at h
  | f + 1, pos, l, a, i, h => by
    rw [splitF] at h
    split at h
    · split at h
      · simp only [Sum.inl.injEq] at h; omega
      · split at h
        · exact split_lt s f _ _ _ i h
        · split at h
          · exact split_lt s f _ _ _ i h
          · exact split_lt s f _ _ _ i h
    · exact absurd h (by simp)
/-- a place within the text; or at its end. -/
def Wi (s : ByteArray) (a : Int) : Prop := 0 ≤ a ∧ a < (s.size : Int)
def We (s : ByteArray) (a : Int) : Prop := 0 ≤ a ∧ a ≤ (s.size : Int)
theorem toks_pl (s : ByteArray) : ∀ (n : Nat) (L A : List Tk) (b : Nat), Od s b L → (∀ t ∈ A, Wi s t.2.2) →
    match toksF s n L A with
    | .inl i => Wi s i
    | .inr T => ∀ t ∈ T, (t.1 ≠ 0 → Wi s t.2.2) ∧ We s t.2.2
  | 0, L, A, b, ho, h => by
    rw [toksF]
    intro t ht
    simp only [List.mem_append, List.mem_singleton] at ht
    rcases ht with ht | rfl
    · exact ⟨fun _ => h t ht, (h t ht).1, Int.le_of_lt (h t ht).2⟩
    · exact ⟨fun q => absurd rfl q, by simp [We]⟩
  | n + 1, [], A, b, ho, h => by
    rw [toksF]
    intro t ht
    simp only [List.mem_append, List.mem_singleton] at ht
    rcases ht with ht | rfl
    · exact ⟨fun _ => h t ht, (h t ht).1, Int.le_of_lt (h t ht).2⟩
    · exact ⟨fun q => absurd rfl q, by simp [We]⟩
  | n + 1, p :: l, A, b, ho, h => by
    have hp : Wi s p.2.2 := by
      have := ho.1; have := ho.2.1; have := ho.2.2.1
      exact ⟨by omega, by omega⟩
    rw [toksF]
    by_cases hm : (fstT p l).2 = 0
    · rw [if_pos hm]; exact hp
    · rw [if_neg hm]
      refine toks_pl s n _ _ b (Od_drop _ _ _ ho) (fun t ht => ?_)
      simp only [List.mem_append, List.mem_singleton] at ht
      rcases ht with ht | rfl
      · exact h t ht
      · exact hp
theorem parse_pl (s : ByteArray) (hs : s.size ≤ 2048) : match parseB s with
    | .inl x => We s x.1 ∧ (x.2 = 21 → Wi s x.1) ∧ x.2 ≠ 0
    | .inr n => PlN (Wi s) n := by
  unfold parseB
  cases ht : toksB s with
  | inl x =>
    dsimp only
    unfold toksB at ht
    cases hp : splitB s with
    | inl i =>
      rw [hp] at ht
      simp only [Sum.inl.injEq] at ht; subst ht
      have := split_lt s _ _ _ _ i hp
      exact ⟨⟨by simp, by simp; omega⟩, fun _ => ⟨by simp, by simp; omega⟩, by simp⟩
    | inr P =>
      rw [hp] at ht
      dsimp only at ht
      have q := toks_pl s P.length (texts s P) [] 0 (Od_cov s P 0 _ (splitB_cov hp)) (by simp)
      cases hf : toksF s P.length (texts s P) [] with
      | inl i =>
        rw [hf] at ht q
        simp only [Sum.inl.injEq] at ht; subst ht
        exact ⟨⟨q.1, Int.le_of_lt q.2⟩, fun _ => q, by simp⟩
      | inr T => rw [hf] at ht; exact absurd ht (by simp)
  | inr T =>
    dsimp only
    obtain ⟨hE, _⟩ := toksB_end ht hs
    have hpl : ∀ t ∈ T, (t.1 ≠ 0 → Wi s t.2.2) ∧ We s t.2.2 := by
      unfold toksB at ht
      cases hp : splitB s with
      | inl i => rw [hp] at ht; exact absurd ht (by simp)
      | inr P =>
        rw [hp] at ht
        dsimp only at ht
        have q := toks_pl s P.length (texts s P) [] 0 (Od_cov s P 0 _ (splitB_cov hp)) (by simp)
        cases hf : toksF s P.length (texts s P) [] with
        | inl i => rw [hf] at ht; exact absurd ht (by simp)
        | inr T' =>
          rw [hf] at ht q
          simp only [Sum.inr.injEq] at ht; subst ht
          exact q
    have hG := par_good (Wi s) (We s) (10 * T.length + 10) (.lv 0) 0 T (by simp [okTg]) ⟨hE, fun p hp => (hpl p hp).1, fun p hp => (hpl p hp).2⟩ (by simp [PlT]) (by simp [need])
    cases hp : par (10 * T.length + 10) (.lv 0) 0 T with
    | no a e =>
      rw [hp] at hG
      refine ⟨hG.2, fun h21 => ?_, ?_⟩
      · have h0 : e = 21 := h21
        have := hG.1
        omega
      · show e ≠ 0
        have := hG.1
        omega
    | ok n l1 =>
      rw [hp] at hG
      obtain ⟨h1, _, ⟨pre, h2⟩, h3⟩ := hG
      obtain ⟨q, l1, rfl⟩ := h1.cons
      have hq : We s q.2.2 := (hpl q (by rw [h2]; simp)).2
      cases hi : isT q [(0, ⟨#[]⟩)] with
      | false =>
        rw [show endT (.ok n (q :: l1)) = .inl (q.2.2, 30) by simp [endT, hi]]
        exact ⟨hq, fun h => absurd h (by simp), by simp⟩
      | true =>
        rw [show endT (.ok n (q :: l1)) = .inr n by simp [endT, hi]]
        exact h3

theorem PlN.mono {S R : Int → Prop} (h : ∀ a, S a → R a) {n : Nd} (hn : PlN S n) : PlN R n := by
  induction hn with
  | mk k t ks a ha hk ih => exact .mk k t ks a (h a ha) ih

end Go.Proofs.YtcmefhnfdcngfaaDoor
/- law22's known: what comes of two fixed texts. -/
namespace Go.Proofs.YtcmefhnfdcngfaaDoor
open Go.RowKit
set_option linter.unusedVariables false

/-- the tables of unicode/utf8 and the library's variable, as a walk wants them. -/
def Gl (w : World) : Prop := Tabs w ∧ ∃ m : Int, w.cell? ⟨3, 0, none⟩ = some (.int .i64 m)
theorem Gl.below {w W : World} (h : Gl w) (hb : Below w.heap.size w W) : Gl W :=
  ⟨Tabs_below h.1 hb, h.2.elim fun m e => ⟨m, (hb.cell (World.block_lt_of_cell? w _ e)).trans e⟩⟩
theorem parse_gl (s : ByteArray) (w : World) (h : Gl w) (hs : s.size ≤ 2048) :
    Calls Tryd.prog 23 #[.string s] w fun e w' => Below w.heap.size w w' ∧ ParOf (fun c => w.heap.size < c) e w' (parseB s) := by
  obtain ⟨hT, m, hm⟩ := h
  exact parse_any s m w hT hm (World.block_lt_of_cell? w _ hm) hs
theorem parse_node {s : ByteArray} {n : Nd} (hp : parseB s = .inr n) (w : World) (h : Gl w) (hs : s.size ≤ 2048) :
    Calls Tryd.prog 23 #[.string s] w fun e w' => Below w.heap.size w w' ∧ ∃ k t sq sn sc a, e = .returned (.tuple #[.agg #[.int .i64 k, .string t, .slice sq sn sc, .int .i64 a], .int .i64 0, .int .i64 0]) ∧ NdAt (fun c => w.heap.size < c) w' n [.int .i64 k, .string t, .slice sq sn sc, .int .i64 a] := by
  refine (parse_gl s w h hs).mono ?_
  rw [hp]
  exact fun e w' h => h

theorem NdAt.head {X : Nat → Prop} {w : World} {k : Int} {t : ByteArray} {ks : List Nd} {a : Int} {c0 c1 c2 c3 : Value} (h : NdAt X w (.mk k t ks a) [c0, c1, c2, c3]) : c0 = .int .i64 k ∧ c1 = .string t ∧ c3 = .int .i64 a := by
  rw [NdAt] at h
  obtain ⟨sv, hcs, hv⟩ := h
  simp only [List.cons.injEq, and_true] at hcs
  obtain ⟨rfl, rfl, rfl, rfl⟩ := hcs
  exact ⟨rfl, rfl, rfl⟩

end Go.Proofs.YtcmefhnfdcngfaaDoor
/- kind.Check of any node; law23's check and known. -/
namespace Go.Proofs.YtcmefhnfdcngfaaDoor
open Go.RowKit
set_option linter.unusedVariables false

/-- what Check tells. -/
def ckV : Sum Int (Int × Bool) → Value
  | .inl a => .tuple #[.int .i64 0, .bool false, .int .i64 a, .int .i64 32]
  | .inr x => .tuple #[.int .i64 x.1, .bool x.2, .int .i64 0, .int .i64 0]

set_option maxRecDepth 100000 in
set_option maxHeartbeats 4000000 in
theorem Check_any (n : Nd) (htz : tzN n = true) (hcn : cnN n ≤ 100000) (X : Nat → Prop) (w : World) (hk : Kn w) (k : Int) (t : ByteArray) (sq : Option Addr) (sn sc : Nat) (a : Int) (h : NdAt X w n [.int .i64 k, .string t, .slice sq sn sc, .int .i64 a]) :
    Calls Tryd.prog 24 #[.agg #[.int .i64 k, .string t, .slice sq sn sc, .int .i64 a]] w fun e w' => e = .returned (ckV (chN n)) ∧ Below w.heap.size w w' := by
  have HA : Hid (Below w.heap.size w (w.alloc (.cells #[.int .i64 k, .string t, .slice sq sn sc, .int .i64 a] 52))) := (Below.refl _ w).alloc (Nat.le_refl _) _
  have HC := check_any n htz hcn X _ _ _ _ _ (hk.below HA.out) (h.below HA.out)
  have HC2 : Hid _ := HC
  clear HC htz hcn hk h
  obtain ⟨C, hC⟩ : ∃ C, chN n = C := ⟨_, rfl⟩
  rw [hC] at HC2 ⊢
  clear hC
  go_enter Tryd.func24, Tryd.ntmps24
  go_wp2_with fail
  refine Calls.mono HC2.out ?_
  rintro e V ⟨rfl, hb⟩
  have HV : Hid (Below w.heap.size w V) := HA.out.trans (hb.mono HA.out.size)
  clear hb HA HC2
  rcases C with A | ⟨r, l⟩
  · have HB : Hid (Below w.heap.size w (V.alloc (.cells #[.int .i64 0, .bool false] 65))) := HV.out.alloc HV.out.size _
    simp only [chV]
    go_wp2
    exact bodyPost_ret (v := .tuple #[.int .i64 0, .bool false, .int .i64 A, .int .i64 32]) (by simp [results, Tryd.results24, go_sem]) rfl ⟨rfl, HB.out⟩
  · have HB : Hid (Below w.heap.size w (V.alloc (.cells #[.int .i64 r, .bool l] 65))) := HV.out.alloc HV.out.size _
    simp only [chV]
    go_wp2_with fail
    go_quiet (fail)
    go_wp2
    exact bodyPost_ret (v := .tuple #[.int .i64 r, .bool l, .int .i64 0, .int .i64 0]) (by simp [results, Tryd.results24, go_sem]) rfl ⟨rfl, bl_drewN HB.out _⟩

/-- what the walks want of the world. -/
def G23 (w : World) : Prop := Gl w ∧ Kn w
theorem G23.below {w W : World} (h : G23 w) (hb : Below w.heap.size w W) : G23 W := ⟨h.1.below hb, h.2.below hb⟩

set_option maxRecDepth 100000 in
set_option maxHeartbeats 4000000 in
theorem lck_node {s : ByteArray} {n : Nd} {C : Sum Int (Int × Bool)} (hs : s.size ≤ 2048) (hp : parseB s = .inr n) (hC : chN n = C) (w : World) (hG : G23 w) :
    Calls Tryd.prog 16 #[.string s] w fun e w' => e = .returned (ckV C) ∧ Below w.heap.size w w' := by
  have HP := parse_node hp w hG.1 hs
  obtain ⟨q1, q2⟩ := parse_sz hs hp
  have HG : Hid (G23 w) := hG
  have HQ1 : Hid _ := q1
  have HQ2 : Hid _ := q2
  have HPP : Hid _ := HP
  have HCC : Hid (chN n = C) := hC
  clear hp hG q1 q2 HP hC
  go_enter Tryd.func16, Tryd.ntmps16
  go_wp2_with fail
  refine Calls.mono HPP.out ?_
  rintro e V ⟨hb, k, t, sq, sn, sc, a, rfl, hnd⟩
  have HB : Hid (Below w.heap.size w V) := hb
  have HA : Hid (Below V.heap.size V (V.alloc (.cells [.int .i64 k, .string t, .slice sq sn sc, .int .i64 a].toArray 52))) := (Below.refl _ V).alloc (Nat.le_refl _) _
  have HD : Hid _ := hnd
  clear hb hnd HPP
  go_wp2_with fail
  refine (Check_any n HQ1.out (by have := HQ2.out; omega) (fun c => w.heap.size < c) _ ((HG.out.below HB.out).below HA.out).2 k t sq sn sc a (HD.out.below HA.out)).mono ?_
  rw [HCC.out]
  rintro e U ⟨rfl, hk⟩
  have HF : Hid (Below w.heap.size w U) := (HB.out.trans (HA.out.mono HB.out.size)).trans (hk.mono (Nat.le_trans HB.out.size HA.out.size))
  clear hk HA HD HB
  rcases C with A | ⟨r, l⟩
  · simp only [ckV]
    go_wp2
    exact bodyPost_ret (v := .tuple #[.int .i64 0, .bool false, .int .i64 A, .int .i64 32]) (by simp [results, Tryd.results16, go_sem]) rfl ⟨rfl, HF.out⟩
  · simp only [ckV]
    go_wp2
    exact bodyPost_ret (v := .tuple #[.int .i64 r, .bool l, .int .i64 0, .int .i64 0]) (by simp [results, Tryd.results16, go_sem]) rfl ⟨rfl, HF.out⟩

def okCk (s : ByteArray) (r : Sum Int (Int × Bool)) : Bool :=
  match parseB s with
  | .inr n => decide (chN n = r)
  | .inl _ => false
theorem okCk_get {s : ByteArray} {r : Sum Int (Int × Bool)} (h : okCk s r = true) : ∃ n, parseB s = .inr n ∧ chN n = r := by
  unfold okCk at h
  split at h
  case h_1 n hn => exact ⟨n, hn, by simpa using h⟩
  case h_2 => exact absurd h (by simp)
theorem kc1 : okCk ⟨#[49, 32, 43, 32, 49, 46, 53]⟩ (.inr (3, false)) = true := by decide +kernel
theorem kc2 : okCk ⟨#[100, 97, 116, 101, 32, 39, 50, 48, 50, 52, 45, 48, 49, 45, 48, 49, 39, 32, 43, 32, 49]⟩ (.inr (5, false)) = true := by decide +kernel
theorem kc3 : okCk ⟨#[49, 32, 43, 32, 116, 114, 117, 101]⟩ (.inl 2) = true := by decide +kernel
theorem kc4 : okCk ⟨#[103, 101, 110, 101, 114, 97, 116, 101, 95, 115, 101, 114, 105, 101, 115, 40, 49, 44, 32, 50, 44, 32, 49, 41, 32, 43, 32, 49]⟩ (.inl 0) = true := by decide +kernel

set_option maxRecDepth 100000 in
set_option maxHeartbeats 4000000 in
theorem known23_any (w : World) (hG : G23 w) :
    Calls Tryd.prog 14 #[] w fun e w' => e = .returned (.bool true) ∧ Below w.heap.size w w' := by
  have HG : Hid (G23 w) := hG
  clear hG
  obtain ⟨n1, p1, c1⟩ := okCk_get kc1
  obtain ⟨n2, p2, c2⟩ := okCk_get kc2
  obtain ⟨n3, p3, c3⟩ := okCk_get kc3
  obtain ⟨n4, p4, c4⟩ := okCk_get kc4
  have H1 : Hid (∀ V : World, G23 V → Calls Tryd.prog 16 #[.string ⟨#[49, 32, 43, 32, 49, 46, 53]⟩] V fun e w' => e = .returned (.tuple #[.int .i64 3, .bool false, .int .i64 0, .int .i64 0]) ∧ Below V.heap.size V w') := fun V hV => lck_node (by decide) p1 c1 V hV
  have H2 : Hid (∀ V : World, G23 V → Calls Tryd.prog 16 #[.string ⟨#[100, 97, 116, 101, 32, 39, 50, 48, 50, 52, 45, 48, 49, 45, 48, 49, 39, 32, 43, 32, 49]⟩] V fun e w' => e = .returned (.tuple #[.int .i64 5, .bool false, .int .i64 0, .int .i64 0]) ∧ Below V.heap.size V w') := fun V hV => lck_node (by decide) p2 c2 V hV
  have H3 : Hid (∀ V : World, G23 V → Calls Tryd.prog 16 #[.string ⟨#[49, 32, 43, 32, 116, 114, 117, 101]⟩] V fun e w' => e = .returned (.tuple #[.int .i64 0, .bool false, .int .i64 2, .int .i64 32]) ∧ Below V.heap.size V w') := fun V hV => lck_node (by decide) p3 c3 V hV
  have H4 : Hid (∀ V : World, G23 V → Calls Tryd.prog 16 #[.string ⟨#[103, 101, 110, 101, 114, 97, 116, 101, 95, 115, 101, 114, 105, 101, 115, 40, 49, 44, 32, 50, 44, 32, 49, 41, 32, 43, 32, 49]⟩] V fun e w' => e = .returned (.tuple #[.int .i64 0, .bool false, .int .i64 0, .int .i64 32]) ∧ Below V.heap.size V w') := fun V hV => lck_node (by decide) p4 c4 V hV
  clear p1 p2 p3 p4 c1 c2 c3 c4
  go_enter Tryd.func14, Tryd.ntmps14
  go_wp2_with fail
  refine (H1.out w HG.out).mono ?_
  rintro e V1 ⟨rfl, b1⟩
  have B1 : Hid (Below w.heap.size w V1) := b1
  clear b1 H1
  go_wp2_with fail
  refine (H2.out V1 (HG.out.below B1.out)).mono ?_
  rintro e V2 ⟨rfl, b2⟩
  have B2 : Hid (Below w.heap.size w V2) := B1.out.trans (b2.mono B1.out.size)
  clear b2 H2 B1
  go_wp2_with fail
  refine (H3.out V2 (HG.out.below B2.out)).mono ?_
  rintro e V3 ⟨rfl, b3⟩
  have B3 : Hid (Below w.heap.size w V3) := B2.out.trans (b3.mono B2.out.size)
  clear b3 H3 B2
  go_wp2_with fail
  refine (H4.out V3 (HG.out.below B3.out)).mono ?_
  rintro e V4 ⟨rfl, b4⟩
  have B4 : Hid (Below w.heap.size w V4) := B3.out.trans (b4.mono B3.out.size)
  clear b4 H4 B3
  go_wp2
  go_ret
  exact ⟨rfl, B4.out⟩

end Go.Proofs.YtcmefhnfdcngfaaDoor
