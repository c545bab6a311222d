/- series: Stamps of what can be, over what is next; law21's known. -/
import Derived.Test.YtpdmndlpgjjopaaGreatDoorSeJq
import Derived.Test.YtpdmndlpgjjopaaGreatDoorSpFq
import Derived.Test.YtpdmndlpgjjopaaGreatDoorSeFq
namespace Go.Proofs.YtpdmndlpgjjopaaGreatDoor
open Go.RowKit
set_option linter.unusedVariables false

def beyS (bi bu d x : Int) : Bool := Dy.spV 0 x bi bu == d
def leadS (d q x : Int) : Bool := Dy.spV 0 x 0 q == d

theorem nextE : ∀ args w, (callFunc 31 args).run Tryz.prog w = .ok (.enter 31 args) w := enters_of Tryz.func31 (by kernel_rfl) rfl

theorem stamps_fol (u bi bu M D U d : Int) (m : Nat) (N : Int → Int × Int) (VL : Int → Prop) (hm : m ≤ 1000) (hVL : ∀ x, VL x → Dy.dok (x / 86400000000) = true) (hu : VL u) (hb : Dy.sR bi bu = true) (b1 : -9223372036854775808 ≤ bu) (b2 : bu ≤ 9223372036854775807) (hp : Sp.pR 0 M D U = true) (hd : Sp.sgA 0 M D U = d) (hd0 : d ≠ 0)
    (hN : ∀ x, VL x → beyS bi bu d x = false → AddIs 0 x 0 M D U 0 (N x).1 (N x).2) (hV : ∀ x, VL x → beyS bi bu d x = false → (N x).2 = 0 → VL (N x).1) (w : World) (hL : Cvl.Lens w) :
    Calls Tryz.prog 12 #[.agg #[.int .i64 0, .int .i64 u], .agg #[.int .i64 bi, .int .i64 bu], .agg #[.int .i64 0, .int .i64 M, .int .i64 D, .int .i64 U], .int .i64 (m : Int)] w fun r' w' => ∃ v, r' = .returned (.tuple #[v, .int .i64 (folF N (beyS bi bu d) (leadS d) m u none []).2]) ∧ Below w.heap.size w w' ∧ w'.ownsRow w.heap.size 36 2 v (folF N (beyS bi bu d) (leadS d) m u none []).1.length (cT (folF N (beyS bi bu d) (leadS d) m u none []).1) := by
  have bp := pR_bd hp
  have BD : ∀ x, VL x → -9223372036854775808 ≤ x ∧ x ≤ 9223372036854775807 := fun x h => dok_bd (hVL x h)
  have SR : ∀ x, VL x → Dy.sR 0 x = true := fun x h => hVL x h
  have mo : mostB (m : Int) = true := by unfold mostB; rw [decide_eq_true (by omega), decide_eq_true (by omega)]; rfl
  have CP : ∀ (x : Int), VL x → ∀ w : World, Cvl.Lens w → _ := fun x hx w hw => Dy.scmp_any 0 x bi bu (BD x hx).1 (BD x hx).2 b1 b2 w hw
  have CQ : ∀ (q x : Int), VL q → VL x → ∀ w : World, Cvl.Lens w → _ := fun q x hq hx w hw => Dy.scmp_any 0 x 0 q (BD x hx).1 (BD x hx).2 (BD q hq).1 (BD q hq).2 w hw
  refine sts_run 0 u bi bu 0 M D U (m : Int) _ _ _ (fun w => by rw [← mo]; exact most_any _ w) (fun w hw => by rw [← SR u hu]; exact Dy.rst_any 0 u (BD u hu).1 (BD u hu).2 w hw) (fun w hw => by rw [← hb]; exact Dy.rst_any bi bu b1 b2 w hw) (fun w => by rw [← hp]; exact Sp.pr_any 0 M D U (by omega) (by omega) w) (fun w hw => ?_) w (Dy.lens_of hL)
  refine fol_run Cvl.Lens (fun W V hW hB => Lens_below hW hB (Lens_lt hW)) _ _ nextE N (beyS bi bu d) (leadS d) VL u bi bu M D U d m hm hd0 hu _ _ rfl (fun x hx hbx w hw => ?_) hV (fun x hx w hw => ?_) (fun q x hq hx w hw => ?_) (fun w => by rw [← hd]; exact Sp.psign_any 0 M D U (by omega) (by omega) w) w hw
  · exact next_any 0 x 0 M D U 0 (N x).1 (N x).2 (fun w hw => sadd_any 0 x 0 M D U 0 _ _ (hN x hx hbx) (BD x hx).1 (BD x hx).2 (by omega) (by omega) w hw) w (Dy.lens_of hw)
  · exact bey_any 0 x bi bu d _ (CP x hx) w (Dy.lens_of hw)
  · exact lead_any 0 q bi bu d 0 x bi bu d _ (CQ q x hq hx) w (Dy.lens_of hw)

theorem at21 (y m d n U : Int) (h1 : Dy.mkV y m d = n) (h2 : Dy.stI 0 n 0 = 0) (h3 : Dy.stV 0 n 0 = U) (w : World) : Calls Tryz.prog 22 #[.int .i64 y, .int .i64 m, .int .i64 d] w fun r w' => r = .returned (.agg #[.int .i64 0, .int .i64 U]) ∧ Below w.heap.size w w' := by
  have MK := fun w => Dy.rmake_any y m d w
  have SA := fun w => Dy.rstart_any 0 n w
  rw [h1] at MK
  rw [h2, h3] at SA
  exact at_any y m d 0 n _ 0 U _ MK SA w

/-- the stamps of the fixed calls. -/
def kN (x : Int) : Int × Int := if x = 759974400000000 then (762480000000000, 0) else if x = 762480000000000 then (764985600000000, 0) else if x = 764985600000000 then (767664000000000, 0) else (770256000000000, 0)
def kV (x : Int) : Prop := x = 759974400000000 ∨ x = 762480000000000 ∨ x = 764985600000000 ∨ x = 767664000000000 ∨ x = 770256000000000
def kL : List Int := [759974400000000, 762480000000000, 764985600000000, 767664000000000]

theorem stamps_known (w : World) (hL : Cvl.Lens w) : Calls Tryz.prog 12 #[.agg #[.int .i64 0, .int .i64 759974400000000], .agg #[.int .i64 0, .int .i64 767836800000000], .agg #[.int .i64 0, .int .i64 1, .int .i64 0, .int .i64 0], .int .i64 9] w fun r' w' => ∃ v, r' = .returned (.tuple #[v, .int .i64 0]) ∧ Below w.heap.size w w' ∧ w'.ownsRow w.heap.size 36 2 v kL.length (cT kL) := by
  have e : folF kN (beyS 0 767836800000000 1) (leadS 1) 9 759974400000000 none [] = (kL, 0) := by decide +kernel
  have h := stamps_fol 759974400000000 0 767836800000000 1 0 0 1 9 kN kV (by decide) (fun x hx => by rcases hx with rfl | rfl | rfl | rfl | rfl <;> decide) (.inl rfl) (by decide) (by decide) (by decide) (by decide) (by decide +kernel) (by decide) ?_ ?_ w hL
  · rw [e] at h
    exact h
  · intro x hx hb
    rcases hx with rfl | rfl | rfl | rfl | rfl
    · exact .inr (.inr ⟨rfl, rfl, by decide, by decide, 2024, 1, 31, ⟨by decide, by decide, by decide, by decide, by decide +kernel⟩, rfl, by decide +kernel, by decide +kernel⟩)
    · exact .inr (.inr ⟨rfl, rfl, by decide, by decide, 2024, 2, 29, ⟨by decide, by decide, by decide, by decide, by decide +kernel⟩, rfl, by decide +kernel, by decide +kernel⟩)
    · exact .inr (.inr ⟨rfl, rfl, by decide, by decide, 2024, 3, 29, ⟨by decide, by decide, by decide, by decide, by decide +kernel⟩, rfl, by decide +kernel, by decide +kernel⟩)
    · exact .inr (.inr ⟨rfl, rfl, by decide, by decide, 2024, 4, 29, ⟨by decide, by decide, by decide, by decide, by decide +kernel⟩, rfl, by decide +kernel, by decide +kernel⟩)
    · exact absurd hb (by decide +kernel)
  · intro x hx hb _
    rcases hx with rfl | rfl | rfl | rfl | rfl
    · exact .inr (.inl rfl)
    · exact .inr (.inr (.inl rfl))
    · exact .inr (.inr (.inr (.inl rfl)))
    · exact .inr (.inr (.inr (.inr rfl)))
    · exact absurd hb (by decide +kernel)

theorem ints_known (w : World) : Calls Tryz.prog 21 #[.int .i64 1, .int .i64 10, .int .i64 4, .int .i64 9] w fun r w' => ∃ g, r = .returned (.tuple #[.slice (some ⟨g, 0, none⟩) 3 3, .int .i64 0]) ∧ Below w.heap.size w w' ∧ IRow w' (.slice (some ⟨g, 0, none⟩) 3 3) [1, 5, 9] := by
  have C := fun w => Count_any 1 10 4 (by decide) (by decide) (by decide) (by decide) (by decide) (by decide) w
  rw [show ctV 1 10 4 = ((3 : Nat) : Int) by decide +kernel, show ctE 1 10 4 = 0 by decide +kernel] at C
  refine (ints_ok 1 10 4 9 3 (by decide) (by decide) (by decide) (by decide +kernel) (fun i hi => ?_) (by decide +kernel) C w).mono ?_
  · rw [IntKind.wrap_i64]; omega
  · rintro e W ⟨g, rfl, hb, _, hx⟩
    exact ⟨g, rfl, hb, IRow.of_bx hx rfl⟩

set_option maxRecDepth 100000 in
set_option maxHeartbeats 8000000 in
theorem known21_any (w : World) (hL : Cvl.Lens w) : Calls Tryz.prog 7 #[] w fun r w' => r = .returned (.bool true) ∧ Below w.heap.size w w' := by
  have hLL : Hid (∀ W : World, Below w.heap.size w W → Cvl.Lens W) := Dy.lens_of hL
  have A1 : Hid (∀ w : World, Calls Tryz.prog 22 #[.int .i64 2024, .int .i64 1, .int .i64 31] w fun r w' => r = .returned (.agg #[.int .i64 0, .int .i64 759974400000000]) ∧ Below w.heap.size w w') := fun w => at21 2024 1 31 8796 _ (by decide +kernel) (by decide +kernel) (by decide +kernel) w
  have A2 : Hid (∀ w : World, Calls Tryz.prog 22 #[.int .i64 2024, .int .i64 5, .int .i64 1] w fun r w' => r = .returned (.agg #[.int .i64 0, .int .i64 767836800000000]) ∧ Below w.heap.size w w') := fun w => at21 2024 5 1 8887 _ (by decide +kernel) (by decide +kernel) (by decide +kernel) w
  have A3 : Hid (∀ w : World, Calls Tryz.prog 22 #[.int .i64 2024, .int .i64 2, .int .i64 29] w fun r w' => r = .returned (.agg #[.int .i64 0, .int .i64 762480000000000]) ∧ Below w.heap.size w w') := fun w => at21 2024 2 29 8825 _ (by decide +kernel) (by decide +kernel) (by decide +kernel) w
  have A4 : Hid (∀ w : World, Calls Tryz.prog 22 #[.int .i64 2024, .int .i64 3, .int .i64 29] w fun r w' => r = .returned (.agg #[.int .i64 0, .int .i64 764985600000000]) ∧ Below w.heap.size w w') := fun w => at21 2024 3 29 8854 _ (by decide +kernel) (by decide +kernel) (by decide +kernel) w
  have A5 : Hid (∀ w : World, Calls Tryz.prog 22 #[.int .i64 2024, .int .i64 4, .int .i64 29] w fun r w' => r = .returned (.agg #[.int .i64 0, .int .i64 767664000000000]) ∧ Below w.heap.size w w') := fun w => at21 2024 4 29 8885 _ (by decide +kernel) (by decide +kernel) (by decide +kernel) w
  go_enter Tryz.func7, Tryz.ntmps7
  go_wp2_with fail
  refine (ints_known _).mono ?_
  rintro e W1 ⟨g, rfl, hb, hr⟩
  have HB1 : Hid (Below w.heap.size w W1) := hb
  have HR1 : Hid (IRow W1 (.slice (some ⟨g, 0, none⟩) 3 3) [1, 5, 9]) := hr
  clear hb hr
  go_wp2_with fail
  refine (A1.out _).mono ?_
  rintro e W2 ⟨rfl, hb⟩
  have HB2 : Hid (Below w.heap.size w W2) := HB1.out.trans (hb.mono HB1.out.size)
  have HR2 : Hid (IRow W2 (.slice (some ⟨g, 0, none⟩) 3 3) [1, 5, 9]) := HR1.out.below hb
  clear hb HB1 HR1
  go_wp2_with fail
  refine (A2.out _).mono ?_
  rintro e W3 ⟨rfl, hb⟩
  have HB3 : Hid (Below w.heap.size w W3) := HB2.out.trans (hb.mono HB2.out.size)
  have HR3 : Hid (IRow W3 (.slice (some ⟨g, 0, none⟩) 3 3) [1, 5, 9]) := HR2.out.below hb
  clear hb HB2 HR2
  go_wp2_with fail
  refine (stamps_known _ (hLL.out _ HB3.out)).mono ?_
  rintro e W4 ⟨v, rfl, hb, ho⟩
  have HB4 : Hid (Below w.heap.size w W4) := HB3.out.trans (hb.mono HB3.out.size)
  have HR4 : Hid (IRow W4 (.slice (some ⟨g, 0, none⟩) 3 3) [1, 5, 9]) := HR3.out.below hb
  have HT4 : Hid (TRow W4 v kL) := TRow.of_own ho
  clear hb HB3 HR3 ho
  go_wp2_with fail
  refine (A1.out _).mono ?_
  rintro e W5 ⟨rfl, hb⟩
  have HB5 : Hid (Below w.heap.size w W5) := HB4.out.trans (hb.mono HB4.out.size)
  have HR5 : Hid (IRow W5 (.slice (some ⟨g, 0, none⟩) 3 3) [1, 5, 9]) := HR4.out.below hb
  have HT5 : Hid (TRow W5 v kL) := HT4.out.below hb
  clear hb HB4 HR4 HT4
  go_wp2_with fail
  refine (A3.out _).mono ?_
  rintro e W6 ⟨rfl, hb⟩
  have HB6 : Hid (Below w.heap.size w W6) := HB5.out.trans (hb.mono HB5.out.size)
  have HR6 : Hid (IRow W6 (.slice (some ⟨g, 0, none⟩) 3 3) [1, 5, 9]) := HR5.out.below hb
  have HT6 : Hid (TRow W6 v kL) := HT5.out.below hb
  clear hb HB5 HR5 HT5
  go_wp2_with fail
  refine (A4.out _).mono ?_
  rintro e W7 ⟨rfl, hb⟩
  have HB7 : Hid (Below w.heap.size w W7) := HB6.out.trans (hb.mono HB6.out.size)
  have HR7 : Hid (IRow W7 (.slice (some ⟨g, 0, none⟩) 3 3) [1, 5, 9]) := HR6.out.below hb
  have HT7 : Hid (TRow W7 v kL) := HT6.out.below hb
  clear hb HB6 HR6 HT6
  go_wp2_with fail
  refine (A5.out _).mono ?_
  rintro e W8 ⟨rfl, hb⟩
  have HB8 : Hid (Below w.heap.size w W8) := HB7.out.trans (hb.mono HB7.out.size)
  have HR8 : Hid (IRow W8 (.slice (some ⟨g, 0, none⟩) 3 3) [1, 5, 9]) := HR7.out.below hb
  have HT8 : Hid (TRow W8 v kL) := HT7.out.below hb
  clear hb HB7 HR7 HT7
  have al : ∀ (V : World) (o : Obj), Below V.heap.size V (V.alloc o) := fun V o => (Below.refl _ V).alloc (Nat.le_refl _) o
  go_upto_region 4 with fail
  refine gen_to (fun V => Hid (Below w.heap.size w V) ∧ Hid (IRow V (.slice (some ⟨g, 0, none⟩) 3 3) [1, 5, 9]) ∧ Hid (TRow V v kL) ∧ Hid (TRow V (.slice (some ⟨W8.heap.size, 0, none⟩) 4 4) kL)) ⟨HB8.out.alloc HB8.out.size _, HR8.out.below (al _ _), HT8.out.below (al _ _), TRow.of_bx (Bx.new W8 (cT kL) 36) rfl⟩ ?_
  clear HB8 HR8 HT8
  generalize W8.heap.size = G8
  rintro V ⟨HB, HR, HT, HS⟩
  have HR9 : Hid (IRow (V.alloc (.cells #[.int .i64 1, .int .i64 5, .int .i64 9] 2)) (.slice (some ⟨g, 0, none⟩) 3 3) [1, 5, 9]) := HR.out.below (al _ _)
  have HL9 : Hid (IRow (V.alloc (.cells #[.int .i64 1, .int .i64 5, .int .i64 9] 2)) (.slice (some ⟨V.heap.size, 0, none⟩) 3 3) [1, 5, 9]) := IRow.of_bx (L := [1, 5, 9]) (Bx.new V (cI [1, 5, 9]) 2) rfl
  go_wp2_with fail
  refine (same_yes _ _ [1, 5, 9] (by decide) _ HR9 HL9).mono ?_
  rintro e U1 ⟨rfl, hb⟩
  have HBU : Hid (Below w.heap.size w U1) := (HB.out.alloc HB.out.size _).trans (hb.mono (HB.out.alloc HB.out.size _).size)
  have HT9 : Hid (TRow U1 v kL) := (HT.out.below (al _ _)).below hb
  have HS9 : Hid (TRow U1 (.slice (some ⟨G8, 0, none⟩) 4 4) kL) := (HS.out.below (al _ _)).below hb
  clear hb HB HR HT HS HR9 HL9 al
  go_wp2_with fail
  refine (Same_yes _ _ kL (by decide) _ HT9 HS9).mono ?_
  rintro e U2 ⟨rfl, hb⟩
  have HB9 : Hid (Below w.heap.size w U2) := HBU.out.trans (hb.mono HBU.out.size)
  clear hb HBU HT9 HS9
  go_wp2_with fail
  go_ret
  exact ⟨rfl, HB9.out⟩

end Go.Proofs.YtpdmndlpgjjopaaGreatDoor
