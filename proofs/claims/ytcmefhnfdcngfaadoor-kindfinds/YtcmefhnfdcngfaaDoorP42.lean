import Derived.Test.YtcmefhnfdcngfaaDoorP37
import Derived.Test.YtcmefhnfdcngfaaDoorP36
import Derived.Test.YtcmefhnfdcngfaaDoorP41
/- expr.write, String of any node. -/
namespace Go.Proofs.YtcmefhnfdcngfaaDoor
open Go.RowKit
set_option linter.unusedVariables false
set_option linter.unusedSimpArgs false

end Go.Proofs.YtcmefhnfdcngfaaDoor
/- The places that expr.Parse names: within the text (mathematics). -/
namespace Go.Proofs.YtcmefhnfdcngfaaDoor
open Go.RowKit
set_option linter.unusedVariables false

theorem PlN.mono {S R : Int → Prop} (h : ∀ a, S a → R a) {n : Nd} (hn : PlN S n) : PlN R n := by
  induction hn with
  | mk k t ks a ha hk ih => exact .mk k t ks a (h a ha) ih

end Go.Proofs.YtcmefhnfdcngfaaDoor
/- law22's known: what comes of two fixed texts. -/
namespace Go.Proofs.YtcmefhnfdcngfaaDoor
open Go.RowKit
set_option linter.unusedVariables false

/-- the tables of unicode/utf8 and the library's variable, as a walk wants them. -/
def Gl (w : World) : Prop := Tabs w ∧ ∃ m : Int, w.cell? ⟨3, 0, none⟩ = some (.int .i64 m)
theorem Gl.below {w W : World} (h : Gl w) (hb : Below w.heap.size w W) : Gl W :=
  ⟨Tabs_below h.1 hb, h.2.elim fun m e => ⟨m, (hb.cell (World.block_lt_of_cell? w _ e)).trans e⟩⟩
theorem parse_gl (s : ByteArray) (w : World) (h : Gl w) (hs : s.size ≤ 2048) :
    Calls Tryd.prog 23 #[.string s] w fun e w' => Below w.heap.size w w' ∧ ParOf (fun c => w.heap.size < c) e w' (parseB s) := by
  obtain ⟨hT, m, hm⟩ := h
  exact parse_any s m w hT hm (World.block_lt_of_cell? w _ hm) hs
theorem parse_node {s : ByteArray} {n : Nd} (hp : parseB s = .inr n) (w : World) (h : Gl w) (hs : s.size ≤ 2048) :
    Calls Tryd.prog 23 #[.string s] w fun e w' => Below w.heap.size w w' ∧ ∃ k t sq sn sc a, e = .returned (.tuple #[.agg #[.int .i64 k, .string t, .slice sq sn sc, .int .i64 a], .int .i64 0, .int .i64 0]) ∧ NdAt (fun c => w.heap.size < c) w' n [.int .i64 k, .string t, .slice sq sn sc, .int .i64 a] := by
  refine (parse_gl s w h hs).mono ?_
  rw [hp]
  exact fun e w' h => h

theorem NdAt.head {X : Nat → Prop} {w : World} {k : Int} {t : ByteArray} {ks : List Nd} {a : Int} {c0 c1 c2 c3 : Value} (h : NdAt X w (.mk k t ks a) [c0, c1, c2, c3]) : c0 = .int .i64 k ∧ c1 = .string t ∧ c3 = .int .i64 a := by
  rw [NdAt] at h
  obtain ⟨sv, hcs, hv⟩ := h
  simp only [List.cons.injEq, and_true] at hcs
  obtain ⟨rfl, rfl, rfl, rfl⟩ := hcs
  exact ⟨rfl, rfl, rfl⟩

end Go.Proofs.YtcmefhnfdcngfaaDoor
/- kind.Check of any node; law23's check and known. -/
namespace Go.Proofs.YtcmefhnfdcngfaaDoor
open Go.RowKit
set_option linter.unusedVariables false

/-- what Check tells. -/
def ckV : Sum Int (Int × Bool) → Value
  | .inl a => .tuple #[.int .i64 0, .bool false, .int .i64 a, .int .i64 32]
  | .inr x => .tuple #[.int .i64 x.1, .bool x.2, .int .i64 0, .int .i64 0]

set_option maxRecDepth 100000 in
set_option maxHeartbeats 4000000 in
theorem Check_any (n : Nd) (htz : tzN n = true) (hcn : cnN n ≤ 100000) (X : Nat → Prop) (w : World) (hk : Kn w) (k : Int) (t : ByteArray) (sq : Option Addr) (sn sc : Nat) (a : Int) (h : NdAt X w n [.int .i64 k, .string t, .slice sq sn sc, .int .i64 a]) :
    Calls Tryd.prog 24 #[.agg #[.int .i64 k, .string t, .slice sq sn sc, .int .i64 a]] w fun e w' => e = .returned (ckV (chN n)) ∧ Below w.heap.size w w' := by
  have HA : Hid (Below w.heap.size w (w.alloc (.cells #[.int .i64 k, .string t, .slice sq sn sc, .int .i64 a] 52))) := (Below.refl _ w).alloc (Nat.le_refl _) _
  have HC := check_any n htz hcn X _ _ _ _ _ (hk.below HA.out) (h.below HA.out)
  have HC2 : Hid _ := HC
  clear HC htz hcn hk h
  obtain ⟨C, hC⟩ : ∃ C, chN n = C := ⟨_, rfl⟩
  rw [hC] at HC2 ⊢
  clear hC
  go_enter Tryd.func24, Tryd.ntmps24
  go_wp2_with fail
  refine Calls.mono HC2.out ?_
  rintro e V ⟨rfl, hb⟩
  have HV : Hid (Below w.heap.size w V) := HA.out.trans (hb.mono HA.out.size)
  clear hb HA HC2
  rcases C with A | ⟨r, l⟩
  · have HB : Hid (Below w.heap.size w (V.alloc (.cells #[.int .i64 0, .bool false] 65))) := HV.out.alloc HV.out.size _
    simp only [chV]
    go_wp2
    exact bodyPost_ret (v := .tuple #[.int .i64 0, .bool false, .int .i64 A, .int .i64 32]) (by simp [results, Tryd.results24, go_sem]) rfl ⟨rfl, HB.out⟩
  · have HB : Hid (Below w.heap.size w (V.alloc (.cells #[.int .i64 r, .bool l] 65))) := HV.out.alloc HV.out.size _
    simp only [chV]
    go_wp2_with fail
    go_quiet (fail)
    go_wp2
    exact bodyPost_ret (v := .tuple #[.int .i64 r, .bool l, .int .i64 0, .int .i64 0]) (by simp [results, Tryd.results24, go_sem]) rfl ⟨rfl, bl_drewN HB.out _⟩

/-- what the walks want of the world. -/
def G23 (w : World) : Prop := Gl w ∧ Kn w
theorem G23.below {w W : World} (h : G23 w) (hb : Below w.heap.size w W) : G23 W := ⟨h.1.below hb, h.2.below hb⟩

set_option maxRecDepth 100000 in
set_option maxHeartbeats 4000000 in
theorem lck_node {s : ByteArray} {n : Nd} {C : Sum Int (Int × Bool)} (hs : s.size ≤ 2048) (hp : parseB s = .inr n) (hC : chN n = C) (w : World) (hG : G23 w) :
    Calls Tryd.prog 16 #[.string s] w fun e w' => e = .returned (ckV C) ∧ Below w.heap.size w w' := by
  have HP := parse_node hp w hG.1 hs
  obtain ⟨q1, q2⟩ := parse_sz hs hp
  have HG : Hid (G23 w) := hG
  have HQ1 : Hid _ := q1
  have HQ2 : Hid _ := q2
  have HPP : Hid _ := HP
  have HCC : Hid (chN n = C) := hC
  clear hp hG q1 q2 HP hC
  go_enter Tryd.func16, Tryd.ntmps16
  go_wp2_with fail
  refine Calls.mono HPP.out ?_
  rintro e V ⟨hb, k, t, sq, sn, sc, a, rfl, hnd⟩
  have HB : Hid (Below w.heap.size w V) := hb
  have HA : Hid (Below V.heap.size V (V.alloc (.cells [.int .i64 k, .string t, .slice sq sn sc, .int .i64 a].toArray 52))) := (Below.refl _ V).alloc (Nat.le_refl _) _
  have HD : Hid _ := hnd
  clear hb hnd HPP
  go_wp2_with fail
  refine (Check_any n HQ1.out (by have := HQ2.out; omega) (fun c => w.heap.size < c) _ ((HG.out.below HB.out).below HA.out).2 k t sq sn sc a (HD.out.below HA.out)).mono ?_
  rw [HCC.out]
  rintro e U ⟨rfl, hk⟩
  have HF : Hid (Below w.heap.size w U) := (HB.out.trans (HA.out.mono HB.out.size)).trans (hk.mono (Nat.le_trans HB.out.size HA.out.size))
  clear hk HA HD HB
  rcases C with A | ⟨r, l⟩
  · simp only [ckV]
    go_wp2
    exact bodyPost_ret (v := .tuple #[.int .i64 0, .bool false, .int .i64 A, .int .i64 32]) (by simp [results, Tryd.results16, go_sem]) rfl ⟨rfl, HF.out⟩
  · simp only [ckV]
    go_wp2
    exact bodyPost_ret (v := .tuple #[.int .i64 r, .bool l, .int .i64 0, .int .i64 0]) (by simp [results, Tryd.results16, go_sem]) rfl ⟨rfl, HF.out⟩

def okCk (s : ByteArray) (r : Sum Int (Int × Bool)) : Bool :=
  match parseB s with
  | .inr n => decide (chN n = r)
  | .inl _ => false
theorem okCk_get {s : ByteArray} {r : Sum Int (Int × Bool)} (h : okCk s r = true) : ∃ n, parseB s = .inr n ∧ chN n = r := by
  unfold okCk at h
  split at h
  case h_1 n hn => exact ⟨n, hn, by simpa using h⟩
  case h_2 => exact absurd h (by simp)
theorem kc1 : okCk ⟨#[49, 32, 43, 32, 49, 46, 53]⟩ (.inr (3, false)) = true := by decide +kernel
theorem kc2 : okCk ⟨#[100, 97, 116, 101, 32, 39, 50, 48, 50, 52, 45, 48, 49, 45, 48, 49, 39, 32, 43, 32, 49]⟩ (.inr (5, false)) = true := by decide +kernel
theorem kc3 : okCk ⟨#[49, 32, 43, 32, 116, 114, 117, 101]⟩ (.inl 2) = true := by decide +kernel
theorem kc4 : okCk ⟨#[103, 101, 110, 101, 114, 97, 116, 101, 95, 115, 101, 114, 105, 101, 115, 40, 49, 44, 32, 50, 44, 32, 49, 41, 32, 43, 32, 49]⟩ (.inl 0) = true := by decide +kernel

set_option maxRecDepth 100000 in
set_option maxHeartbeats 4000000 in
theorem known23_any (w : World) (hG : G23 w) :
    Calls Tryd.prog 14 #[] w fun e w' => e = .returned (.bool true) ∧ Below w.heap.size w w' := by
  have HG : Hid (G23 w) := hG
  clear hG
  obtain ⟨n1, p1, c1⟩ := okCk_get kc1
  obtain ⟨n2, p2, c2⟩ := okCk_get kc2
  obtain ⟨n3, p3, c3⟩ := okCk_get kc3
  obtain ⟨n4, p4, c4⟩ := okCk_get kc4
  have H1 : Hid (∀ V : World, G23 V → Calls Tryd.prog 16 #[.string ⟨#[49, 32, 43, 32, 49, 46, 53]⟩] V fun e w' => e = .returned (.tuple #[.int .i64 3, .bool false, .int .i64 0, .int .i64 0]) ∧ Below V.heap.size V w') := fun V hV => lck_node (by decide) p1 c1 V hV
  have H2 : Hid (∀ V : World, G23 V → Calls Tryd.prog 16 #[.string ⟨#[100, 97, 116, 101, 32, 39, 50, 48, 50, 52, 45, 48, 49, 45, 48, 49, 39, 32, 43, 32, 49]⟩] V fun e w' => e = .returned (.tuple #[.int .i64 5, .bool false, .int .i64 0, .int .i64 0]) ∧ Below V.heap.size V w') := fun V hV => lck_node (by decide) p2 c2 V hV
  have H3 : Hid (∀ V : World, G23 V → Calls Tryd.prog 16 #[.string ⟨#[49, 32, 43, 32, 116, 114, 117, 101]⟩] V fun e w' => e = .returned (.tuple #[.int .i64 0, .bool false, .int .i64 2, .int .i64 32]) ∧ Below V.heap.size V w') := fun V hV => lck_node (by decide) p3 c3 V hV
  have H4 : Hid (∀ V : World, G23 V → Calls Tryd.prog 16 #[.string ⟨#[103, 101, 110, 101, 114, 97, 116, 101, 95, 115, 101, 114, 105, 101, 115, 40, 49, 44, 32, 50, 44, 32, 49, 41, 32, 43, 32, 49]⟩] V fun e w' => e = .returned (.tuple #[.int .i64 0, .bool false, .int .i64 0, .int .i64 32]) ∧ Below V.heap.size V w') := fun V hV => lck_node (by decide) p4 c4 V hV
  clear p1 p2 p3 p4 c1 c2 c3 c4
  go_enter Tryd.func14, Tryd.ntmps14
  go_wp2_with fail
  refine (H1.out w HG.out).mono ?_
  rintro e V1 ⟨rfl, b1⟩
  have B1 : Hid (Below w.heap.size w V1) := b1
  clear b1 H1
  go_wp2_with fail
  refine (H2.out V1 (HG.out.below B1.out)).mono ?_
  rintro e V2 ⟨rfl, b2⟩
  have B2 : Hid (Below w.heap.size w V2) := B1.out.trans (b2.mono B1.out.size)
  clear b2 H2 B1
  go_wp2_with fail
  refine (H3.out V2 (HG.out.below B2.out)).mono ?_
  rintro e V3 ⟨rfl, b3⟩
  have B3 : Hid (Below w.heap.size w V3) := B2.out.trans (b3.mono B2.out.size)
  clear b3 H3 B2
  go_wp2_with fail
  refine (H4.out V3 (HG.out.below B3.out)).mono ?_
  rintro e V4 ⟨rfl, b4⟩
  have B4 : Hid (Below w.heap.size w V4) := B3.out.trans (b4.mono B3.out.size)
  clear b4 H4 B3
  go_wp2
  go_ret
  exact ⟨rfl, B4.out⟩

end Go.Proofs.YtcmefhnfdcngfaaDoor
