/- law22's known: what comes of two fixed texts. -/
import Derived.Test.YtaoocecipacnhaaDoorExWrq
import Derived.Test.YtaoocecipacnhaaDoorExPlq
namespace Go.Proofs.YtaoocecipacnhaaDoor
open Go.RowKit
set_option linter.unusedVariables false

/-- the tables of unicode/utf8 and the library's variable, as a walk wants them. -/
def Gl (w : World) : Prop := Tabs w ∧ ∃ m : Int, w.cell? ⟨2, 0, none⟩ = some (.int .i64 m)
theorem Gl.below {w W : World} (h : Gl w) (hb : Below w.heap.size w W) : Gl W :=
  ⟨Tabs_below h.1 hb, h.2.elim fun m e => ⟨m, (hb.cell (World.block_lt_of_cell? w _ e)).trans e⟩⟩
theorem parse_gl (s : ByteArray) (w : World) (h : Gl w) (hs : s.size ≤ 2048) :
    Calls Tryd.prog 5 #[.string s] w fun e w' => Below w.heap.size w w' ∧ ParOf (fun c => w.heap.size < c) e w' (parseB s) := by
  obtain ⟨hT, m, hm⟩ := h
  exact parse_any s m w hT hm (World.block_lt_of_cell? w _ hm) hs
theorem parse_node {s : ByteArray} {n : Nd} (hp : parseB s = .inr n) (w : World) (h : Gl w) (hs : s.size ≤ 2048) :
    Calls Tryd.prog 5 #[.string s] w fun e w' => Below w.heap.size w w' ∧ ∃ k t sq sn sc a, e = .returned (.tuple #[.agg #[.int .i64 k, .string t, .slice sq sn sc, .int .i64 a], .int .i64 0, .int .i64 0]) ∧ NdAt (fun c => w.heap.size < c) w' n [.int .i64 k, .string t, .slice sq sn sc, .int .i64 a] := by
  refine (parse_gl s w h hs).mono ?_
  rw [hp]
  exact fun e w' h => h

theorem string_gl (n : Nd) (htz : tzN n = true) (hlen : (wrN n).length ≤ 1000000000) (X : Nat → Prop) (w : World) (h : Gl w) (c0 c1 c2 c3 : Value) (hn : NdAt X w n [c0, c1, c2, c3]) :
    Calls Tryd.prog 10 #[.agg #[c0, c1, c2, c3]] w fun e w' => e = .returned (.string ⟨(wrN n).toArray⟩) ∧ Below w.heap.size w w' := by
  obtain ⟨hT, m, hm⟩ := h
  exact string_any n htz w m c0 c1 c2 c3 (NdAt.keep (Nat.le_refl _) (fun b _ _ => ⟨trivial, rfl⟩) n _ hn) (World.block_lt_of_cell? w _ hm) hm hlen

theorem ba_eq {t : ByteArray} {l : List UInt8} (h : t.data.toList = l) : t = ⟨l.toArray⟩ := by
  subst h; rfl
def kn1 (r : Sum (Int × Int) Nd) : Bool :=
  match r with
  | .inr (.mk k t [n0, .mk k1 t1 ks1 a1] a) => k == 8 && t.data.toList == [43] && a == 2 && t1.data.toList == [42] && wrN (.mk k t [n0, .mk k1 t1 ks1 a1] a) == [40, 49, 32, 43, 32, 40, 50, 32, 42, 32, 40, 120, 40, 51, 41, 58, 58, 100, 97, 116, 101, 41, 41, 41] && stN (.mk k t [n0, .mk k1 t1 ks1 a1] a) == 7 && tzN (.mk k t [n0, .mk k1 t1 ks1 a1] a)
  | _ => false
theorem kn1_get {r : Sum (Int × Int) Nd} (h : kn1 r = true) : ∃ n0 k1 ks1 a1, r = .inr (.mk 8 ⟨#[43]⟩ [n0, .mk k1 ⟨#[42]⟩ ks1 a1] 2) ∧ wrN (.mk 8 ⟨#[43]⟩ [n0, .mk k1 ⟨#[42]⟩ ks1 a1] 2) = [40, 49, 32, 43, 32, 40, 50, 32, 42, 32, 40, 120, 40, 51, 41, 58, 58, 100, 97, 116, 101, 41, 41, 41] ∧ stN (.mk 8 ⟨#[43]⟩ [n0, .mk k1 ⟨#[42]⟩ ks1 a1] 2) = 7 ∧ tzN (.mk 8 ⟨#[43]⟩ [n0, .mk k1 ⟨#[42]⟩ ks1 a1] 2) = true := by
  unfold kn1 at h
  split at h
  case h_1 k t n0 k1 t1 ks1 a1 a =>
    simp only [Bool.and_eq_true, beq_iff_eq] at h
    obtain ⟨⟨⟨⟨⟨⟨rfl, h1⟩, rfl⟩, h2⟩, h3⟩, h4⟩, h5⟩ := h
    obtain rfl := ba_eq h1
    obtain rfl := ba_eq h2
    exact ⟨n0, k1, ks1, a1, rfl, h3, h4, h5⟩
  case h_2 => exact absurd h (by simp)
def kn2 (r : Sum (Int × Int) Nd) : Bool :=
  match r with
  | .inr (.mk k t ks a) => k == 8 && t.data.toList == [97, 116, 32, 116, 105, 109, 101, 32, 122, 111, 110, 101]
  | _ => false
theorem kn2_get {r : Sum (Int × Int) Nd} (h : kn2 r = true) : ∃ ks a, r = .inr (.mk 8 ⟨#[97, 116, 32, 116, 105, 109, 101, 32, 122, 111, 110, 101]⟩ ks a) := by
  unfold kn2 at h
  split at h
  case h_1 k t ks a =>
    simp only [Bool.and_eq_true, beq_iff_eq] at h
    obtain ⟨rfl, h1⟩ := h
    obtain rfl := ba_eq h1
    exact ⟨ks, a, rfl⟩
  case h_2 => exact absurd h (by simp)
theorem kn1_is : kn1 (parseB ⟨#[49, 32, 43, 32, 50, 32, 42, 32, 120, 40, 51, 41, 58, 58, 100, 97, 116, 101]⟩) = true := by decide +kernel
theorem kn2_is : kn2 (parseB ⟨#[100, 97, 116, 101, 32, 39, 50, 48, 50, 52, 45, 48, 49, 45, 48, 49, 39, 32, 97, 116, 32, 116, 105, 109, 101, 32, 122, 111, 110, 101, 32, 39, 85, 84, 67, 39]⟩) = true := by decide +kernel

theorem NdAt.two {X : Nat → Prop} {w : World} {k : Int} {t : ByteArray} {n0 n1 : Nd} {a : Int} {c0 c1 c2 c3 : Value} (h : NdAt X w (.mk k t [n0, n1] a) [c0, c1, c2, c3]) : c0 = .int .i64 k ∧ c1 = .string t ∧ c3 = .int .i64 a ∧ ∃ b cap, c2 = .slice (some ⟨b, 0, none⟩) 2 cap ∧ 2 ≤ cap ∧ cap ≤ maxLen ∧ X b ∧ b < w.heap.size ∧ ∃ d0 d1 d2 d3 e0 e1 e2 e3, w.cell? ⟨b, 0, none⟩ = some d0 ∧ w.cell? ⟨b, 1, none⟩ = some d1 ∧ w.cell? ⟨b, 2, none⟩ = some d2 ∧ w.cell? ⟨b, 3, none⟩ = some d3 ∧ w.cell? ⟨b, 4, none⟩ = some e0 ∧ w.cell? ⟨b, 5, none⟩ = some e1 ∧ w.cell? ⟨b, 6, none⟩ = some e2 ∧ w.cell? ⟨b, 7, none⟩ = some e3 ∧ NdAt X w n0 [d0, d1, d2, d3] ∧ NdAt X w n1 [e0, e1, e2, e3] := by
  rw [NdAt] at h
  obtain ⟨sv, hcs, hv⟩ := h
  simp only [List.cons.injEq, and_true] at hcs
  obtain ⟨rfl, rfl, rfl, rfl⟩ := hcs
  rcases hv with ⟨q1, q2⟩ | ⟨b, cap, e1, e0, e2, e3, e4, e5, e6⟩
  · exact absurd q1 (by simp)
  · rw [RwAt, RwAt] at e6
    obtain ⟨⟨d0, d1, d2, d3, y0, y1, y2, y3, y⟩, ⟨f0, f1, f2, f3, z0, z1, z2, z3, z⟩, -⟩ := e6
    exact ⟨rfl, rfl, rfl, b, cap, e1, e2, e3, e4, e5, d0, d1, d2, d3, f0, f1, f2, f3, y0, y1, y2, y3, z0, z1, z2, z3, y, z⟩
theorem NdAt.head {X : Nat → Prop} {w : World} {k : Int} {t : ByteArray} {ks : List Nd} {a : Int} {c0 c1 c2 c3 : Value} (h : NdAt X w (.mk k t ks a) [c0, c1, c2, c3]) : c0 = .int .i64 k ∧ c1 = .string t ∧ c3 = .int .i64 a := by
  rw [NdAt] at h
  obtain ⟨sv, hcs, hv⟩ := h
  simp only [List.cons.injEq, and_true] at hcs
  obtain ⟨rfl, rfl, rfl, rfl⟩ := hcs
  exact ⟨rfl, rfl, rfl⟩

set_option maxRecDepth 100000 in
set_option maxHeartbeats 8000000 in
theorem known22_any (w : World) (hGl : Gl w) :
    Calls Tryd.prog 9 #[] w fun e w' => e = .returned (.bool true) ∧ Below w.heap.size w w' := by
  obtain ⟨n0, k1, ks1, a1, hp1, hw1, hs1, ht1⟩ := kn1_get kn1_is
  obtain ⟨ks2, a2, hp2⟩ := kn2_get kn2_is
  have HG : Hid (Gl w) := hGl
  have HP1 : Hid _ := hp1
  have HP2 : Hid _ := hp2
  have HW1 : Hid _ := hw1
  have HS1 : Hid _ := hs1
  have HT1 : Hid _ := ht1
  clear hGl hp1 hp2 hw1 hs1 ht1
  go_enter Tryd.func9, Tryd.ntmps9
  go_wp2_with fail
  refine (parse_node HP1.out w HG.out (by decide)).mono ?_
  rintro e V ⟨hb, k, t, sq, sn, sc, a, rfl, hnd⟩
  have HN : Hid (NdAt _ V _ _) := hnd
  obtain ⟨q0, q1, q3, b, cap, q2, hcap, hmx, hXb, hbV, d0, d1, d2, d3, e0, e1, e2, e3, y0, y1, y2, y3, z0, z1, z2, z3, -, hn1⟩ := hnd.two
  obtain ⟨-, rfl, -⟩ := hn1.head
  simp only [Value.int.injEq, Value.string.injEq, Value.slice.injEq, true_and] at q0 q1 q2 q3
  obtain ⟨rfl, rfl, rfl⟩ := q2
  subst q0 q1 q3
  have HB : Hid (Below w.heap.size w V) := hb
  have BV : Hid (BS V [(V.heap.size, [.int .i64 8, .string ⟨#[43]⟩, .slice (some ⟨b, 0, none⟩) 2 sc, .int .i64 2])] _) := (BS.start V).new [.int .i64 8, .string ⟨#[43]⟩, .slice (some ⟨b, 0, none⟩) 2 sc, .int .i64 2] 24 rfl
  unfold maxLen at hmx
  clear hb hnd hn1 hXb y0 y1 y2 y3 z0 z2 z3
  go_wp2_with fail
  refine (parse_node HP2.out _ (HG.out.below (HB.out.trans (BV.out.1.mono HB.out.size))) (by decide)).mono ?_
  rintro e U ⟨hb, k', t', sq', sn', sc', a', rfl, hnd⟩
  obtain ⟨q0, q1, -⟩ := hnd.head
  simp only [Value.int.injEq, Value.string.injEq, true_and] at q0 q1
  subst q0 q1
  have BU : Hid (BS V [(V.heap.size, [.int .i64 8, .string ⟨#[43]⟩, .slice (some ⟨b, 0, none⟩) 2 sc, .int .i64 2])] U) := BV.out.below hb
  have BW : Hid (BS V [(V.heap.size, [.int .i64 8, .string ⟨#[43]⟩, .slice (some ⟨b, 0, none⟩) 2 sc, .int .i64 2])] (U.alloc (.cells [.int .i64 8, .string ⟨#[97, 116, 32, 116, 105, 109, 101, 32, 122, 111, 110, 101]⟩, .slice sq' sn' sc', .int .i64 a'].toArray 24))) := BU.out.alloc _
  have x0 := BU.out.first.c 0 rfl
  have x1 := BU.out.first.c 1 rfl
  have x2 := BU.out.first.c 2 rfl
  have x3 := BU.out.first.c 3 rfl
  have hVU := BU.out.first.1
  have v1 := (BU.out.1.cell (p := ⟨b, 5, none⟩) hbV).trans z1
  have hbU : b < U.heap.size := by omega
  clear hb hnd BV
  go_wp2_with fail
  refine (string_gl _ HT1.out (by rw [HW1.out]; decide) (fun c => w.heap.size < c) _ (HG.out.below (HB.out.trans (BW.out.1.mono HB.out.size))) _ _ _ _ (HN.out.below BW.out.1)).mono ?_
  rintro e U2 ⟨he, hk⟩
  rw [HW1.out] at he
  subst he
  have BX : Hid (BS V [(V.heap.size, [.int .i64 8, .string ⟨#[43]⟩, .slice (some ⟨b, 0, none⟩) 2 sc, .int .i64 2])] U2) := BW.out.below hk
  clear hk BW BU x0 x1 x2 x3 v1
  have x0 := BX.out.first.c 0 rfl
  have x1 := BX.out.first.c 1 rfl
  have x2 := BX.out.first.c 2 rfl
  have x3 := BX.out.first.c 3 rfl
  have hVU2 := BX.out.first.1
  go_wp2_with fail
  refine (steps_any _ (PlN.all _) (fun c => w.heap.size < c) U2 _ _ _ _ (HN.out.below BX.out.1) (by rw [HS1.out]; decide)).mono ?_
  rintro e U3 ⟨he, hk⟩
  rw [HS1.out] at he
  subst he
  have HF : Hid (Below w.heap.size w U3) := (HB.out.trans (BX.out.1.mono HB.out.size)).trans (hk.mono (Nat.le_trans HB.out.size BX.out.1.size))
  clear hk BX x0 x1 x2 x3
  go_wp2
  go_ret
  exact ⟨rfl, HF.out⟩

end Go.Proofs.YtaoocecipacnhaaDoor
