/- series: days and microseconds on, by UTC and by what clocks say, come to the same. -/
import Derived.Test.YtpdmndlpgjjopaaGreatDoorSeNq
import Derived.Test.YtpdmndlpgjjopaaGreatDoorSeKq
import Derived.Test.YtpdmndlpgjjopaaGreatDoorStLq
import Derived.Test.YtpdmndlpgjjopaaGreatDoorStUq
namespace Go.Proofs.YtpdmndlpgjjopaaGreatDoor
open Go.RowKit Sr
set_option linter.unusedVariables false

/-- an instant near a stamp that can be may be asked. -/
theorem ask_of {x t : Int} (h : Dy.dok (x / 86400000000) = true) (h1 : x / 1000000 + 946684800 - 57600 ≤ t) (h2 : t ≤ x / 1000000 + 946684800 + 57600) : ask t := by
  have k := Dy.dok_yes h
  have e : -2451508 ≤ t / 86400 - 10957 ∧ t / 86400 - 10957 ≤ 106751983 := by omega
  obtain ⟨y, hy⟩ := Fn.yat_is t
  refine ⟨by omega, by omega, y, hy, ?_⟩
  have c1 : Cvl.can (t / 86400 - 10957) = true := by unfold Cvl.can; exact decide_eq_true (by omega)
  rcases hy with ⟨_, b, c⟩ | ⟨a, _⟩ | ⟨a, _⟩
  · unfold askY
    refine decide_eq_true ⟨?_, ?_⟩
    · have : Cv.S (-4714) ≤ t / 86400 - 10957 := by rw [show Cv.S (-4714) = -2452237 by decide +kernel]; omega
      have := Cv.S_lt (show Cv.S (-4714) < Cv.S (y + 1) by omega)
      omega
    · have : t / 86400 - 10957 < Cv.S 294279 := by rw [show Cv.S 294279 = 106752713 by decide +kernel]; omega
      have := Cv.S_lt (show Cv.S y < Cv.S 294279 by omega)
      omega
  · rw [c1] at a; cases a
  · rw [c1] at a; cases a
def OkU : World → Prop := OkN (.slice none 0 0) []
theorem okU_of {w : World} (h : Cvl.Lens w) : OkU w := ⟨⟨⟨none, 0, rfl⟩, by unfold maxLen; simp, .inl rfl⟩, h⟩
theorem utL_len : utL.length = 25 := rfl
theorem moz {u : Int} (h : Dy.dok (u / 86400000000) = true) : moV u 0 = u ∧ moE u 0 = 0 := by
  unfold moV moE
  rw [Int.add_zero, if_pos h, if_pos h]
  exact ⟨rfl, rfl⟩

theorem ulocal (u : Int) (hu : Dy.dok (u / 86400000000) = true) (w : World) (HO : OkU w) : Calls Tryz.prog 52 #[.agg utL.toArray, .agg #[.int .i64 0, .int .i64 u]] w fun r w' => r = .returned (.tuple #[.agg #[.int .i64 0, .int .i64 u], .int .i64 0]) ∧ Below w.heap.size w w' := by
  have h := nlocal nmU fU none 0 0 [] noU u _ 0 hu rfl (ask_of hu (by omega) (by omega)) (by simp [curT, fU]) w HO
  rw [(moz hu).1, (moz hu).2] at h
  exact h

theorem ustretch (s : Int) : Zm.pGo s (stsN fU [] s) (⟨0, 0, 0⟩, ⟨0, 0, 0⟩) = (⟨0, 0, 0⟩, ⟨1, s, s⟩) := by
  have e : stsN fU [] s = [⟨s - 57600, s + 57600 + 1, 0⟩] := by
    simp [stsN, Zm.strs, Zm.chg, curT, fU]
  rw [e]
  unfold Zm.pGo
  rw [if_neg (by unfold Zm.less; simp only []; omega), if_pos (by unfold Zm.says; simp only []; omega)]
  simp [Zm.pGo, Zm.Gr.more]

theorem uinst (u : Int) (hu : Dy.dok (u / 86400000000) = true) (w : World) (HO : OkU w) : Calls Tryz.prog 54 #[.agg utL.toArray, .agg #[.int .i64 0, .int .i64 u]] w fun r w' => r = .returned (.tuple #[.agg #[.int .i64 0, .int .i64 u], .int .i64 0, .int .i64 0]) ∧ Below w.heap.size w w' := by
  have e := ustretch (u / 1000000 + 946684800)
  exact ninst nmU fU none 0 0 (Nat.le_refl _) [] rfl noU u (u / 1000000 + 946684800) (u / 1000000 + 946684800) 0 0 u hu rfl (ask_of hu (by omega) (by omega)) (ask_of hu (by omega) (by omega)) (ask_of hu (by omega) (by omega)) (by rw [e]; rfl) (by rw [e]; rfl) (by omega) (by decide) (by decide) (by rw [Int.zero_mul, Int.add_zero]; exact hu) (by omega) w HO

/-- days and microseconds on. -/
def nz (D U x : Int) : Int × Int := if Dy.dok (x / 86400000000 + D) = true then (moV (x + D * 86400000000) U, moE (x + D * 86400000000) U) else (0, 10)
theorem nz_add {D U x : Int} (hx : Dy.dok (x / 86400000000) = true) (hp : Sp.pR 0 0 D U = true) : AddIs 0 x 0 0 D U 0 (nz D U x).1 (nz D U x).2 := by
  obtain ⟨y, p, q, hq⟩ := Cv.is_date (x / 86400000000)
  have e2 : mdv x y p q 0 D = x + D * 86400000000 := by unfold mdv s1v; rw [if_pos rfl]; omega
  have e1 : mdk (x / 86400000000) y p q 0 D = Dy.dok (x / 86400000000 + D) := by unfold mdk s1k s1v; rw [if_pos rfl, if_pos rfl, Bool.true_and]
  refine .inr (.inr ⟨rfl, rfl, hx, hp, y, p, q, hq, rfl, ?_, ?_⟩)
  · unfold nz; rw [e1, e2]; split <;> rfl
  · unfold nz; rw [e1, e2]; split <;> rfl
theorem mo_ok {u n : Int} (h : moE u n = 0) : Dy.dok ((u + n) / 86400000000) = true ∧ moV u n = u + n := by
  unfold moE at h
  unfold moV
  by_cases k : Dy.dok ((u + n) / 86400000000) = true
  · exact ⟨k, by rw [if_pos k]⟩
  · rw [if_neg k] at h; omega
theorem nz_ok {D U x : Int} (h : (nz D U x).2 = 0) : Dy.dok ((nz D U x).1 / 86400000000) = true ∧ (nz D U x).1 = x + (D * 86400000000 + U) := by
  unfold nz at h ⊢
  by_cases k : Dy.dok (x / 86400000000 + D) = true
  · rw [if_pos k] at h ⊢
    obtain ⟨a, b⟩ := mo_ok h
    simp only [] at a b ⊢
    rw [b]
    exact ⟨a, by omega⟩
  · rw [if_neg k] at h; simp only [] at h; omega
theorem dok_sh {x D : Int} (h : Dy.dok (x / 86400000000 + D) = true) : Dy.dok ((x + D * 86400000000) / 86400000000) = true := by
  rw [show (x + D * 86400000000) / 86400000000 = x / 86400000000 + D by omega]; exact h

theorem utc_add (D U x : Int) (hx : Dy.dok (x / 86400000000) = true) (hp : Sp.pR 0 0 D U = true) (w : World) (HO : OkU w) : Calls Tryz.prog 10 #[.agg utL.toArray, .agg #[.int .i64 0, .int .i64 x], .agg #[.int .i64 0, .int .i64 0, .int .i64 D, .int .i64 U]] w fun r w' => r = .returned (.tuple #[.agg #[.int .i64 0, .int .i64 (nz D U x).1], .int .i64 (nz D U x).2]) ∧ Below w.heap.size w w' := by
  have b := pR_bd hp
  obtain ⟨u1, u2⟩ := dok_bd hx
  have RT := fun w (hw : OkU w) => nright nmU fU (.slice none 0 0) [] noU w hw.1
  have RS := fun w (hw : OkU w) => rst_yes hx w hw.2
  have PR := fun w => pr_yes hp w
  have K0 := fun w => kind_b 0 w
  have TG := fun w => tog_any 0 0 (.inr (.inl rfl)) (.inr (.inl rfl)) w
  have ok : Hid (∀ W : World, Below w.heap.size w W → OkU W) := fun W hb => HO.below hb
  by_cases hD : D = 0
  · subst hD
    have MO := fun w (hw : OkU w) => more_any 0 x U u1 u2 (by omega) (by omega) w hw.2
    have e : nz 0 U x = (moV x U, moE x U) := by unfold nz; rw [Int.add_zero, if_pos hx, Int.zero_mul, Int.add_zero]
    rw [e]
    exact az_none OkU _ utL_len 0 x 0 U _ _ (kdV 0) (kdV 0) RT RS PR K0 K0 TG MO w ok
  · have hp0 : Sp.pR 0 0 D 0 = true := pR_of (by omega)
    have AD := fun w (hw : OkU w) => sadd_any 0 x 0 0 D 0 0 _ _ (nz_add hx hp0) u1 u2 (by decide) (by decide) w hw.2
    have LO := fun w hw => ulocal x hx w hw
    by_cases k : Dy.dok (x / 86400000000 + D) = true
    · have kv := dok_sh k
      obtain ⟨v1, v2⟩ := dok_bd kv
      rw [show nz D 0 x = (x + D * 86400000000, 0) by unfold nz; rw [if_pos k, (moz kv).1, (moz kv).2]] at AD
      have IN := fun w hw => uinst (x + D * 86400000000) kv w hw
      have MB := fun w (hw : OkU w) => mb_ok OkU _ utL_len x 0 0 D U x _ _ 0 0 LO AD IN w (fun W hb => hw.below hb)
      have MO := fun w (hw : OkU w) => more_any 0 (x + D * 86400000000) U v1 v2 (by omega) (by omega) w hw.2
      rw [show nz D U x = (moV (x + D * 86400000000) U, moE (x + D * 86400000000) U) by unfold nz; rw [if_pos k]]
      exact az_okd OkU _ utL_len 0 x 0 D U _ _ _ (kdV 0) (kdV 0) hD RT RS PR K0 K0 TG MB MO w ok
    · rw [show nz D 0 x = (0, 10) by unfold nz; rw [if_neg k]] at AD
      have MB := fun w (hw : OkU w) => mb_err2 OkU _ utL_len x 0 0 D U x _ 10 (by decide) LO AD w (fun W hb => hw.below hb)
      rw [show nz D U x = (0, 10) by unfold nz; rw [if_neg k]]
      exact az_errd OkU _ utL_len 0 x 0 D U _ 10 (kdV 0) (kdV 0) (by decide) hD RT RS PR K0 K0 TG MB w ok

theorem znextE : ∀ args w, (callFunc 20 args).run Tryz.prog w = .ok (.enter 20 args) w := enters_of Tryz.func20 (by kernel_rfl) rfl

/-- Tz of what can be, over what is next in its zone. -/
theorem tz_fol (Ok : World → Prop) (hOk : ∀ W V : World, Ok W → Below W.heap.size W V → Ok V) (hOL : ∀ W, Ok W → Cvl.Lens W) (T : List Value) (hT : T.length = 25) (RT : ∀ w : World, Ok w → Calls Tryz.prog 16 #[.agg T.toArray] w fun r' w' => r' = .returned (.bool true) ∧ Below w.heap.size w w')
    (u bi bu M D U d : Int) (m : Nat) (N : Int → Int × Int) (VL : Int → Prop) (hm : m ≤ 1000) (hVL : ∀ x, VL x → Dy.dok (x / 86400000000) = true) (hu : VL u) (hb : Dy.sR bi bu = true) (b1 : -9223372036854775808 ≤ bu) (b2 : bu ≤ 9223372036854775807) (hp : Sp.pR 0 M D U = true) (hd : Sp.sgA 0 M D U = d) (hd0 : d ≠ 0)
    (hN : ∀ x, VL x → beyS bi bu d x = false → ∀ w : World, Ok w → Calls Tryz.prog 10 #[.agg T.toArray, .agg #[.int .i64 0, .int .i64 x], .agg #[.int .i64 0, .int .i64 M, .int .i64 D, .int .i64 U]] w fun r w' => r = .returned (.tuple #[.agg #[.int .i64 0, .int .i64 (N x).1], .int .i64 (N x).2]) ∧ Below w.heap.size w w') (hV : ∀ x, VL x → beyS bi bu d x = false → (N x).2 = 0 → VL (N x).1) (w : World) (hL : Ok w) :
    Calls Tryz.prog 6 #[.agg T.toArray, .agg #[.int .i64 0, .int .i64 u], .agg #[.int .i64 bi, .int .i64 bu], .agg #[.int .i64 0, .int .i64 M, .int .i64 D, .int .i64 U], .int .i64 (m : Int)] w fun r' w' => ∃ v, r' = .returned (.tuple #[v, .int .i64 (folF N (beyS bi bu d) (leadS d) m u none []).2]) ∧ Below w.heap.size w w' ∧ w'.ownsRow w.heap.size 36 2 v (folF N (beyS bi bu d) (leadS d) m u none []).1.length (cT (folF N (beyS bi bu d) (leadS d) m u none []).1) := by
  have bp := pR_bd hp
  have BD : ∀ x, VL x → -9223372036854775808 ≤ x ∧ x ≤ 9223372036854775807 := fun x h => dok_bd (hVL x h)
  have SR : ∀ x, VL x → Dy.sR 0 x = true := fun x h => hVL x h
  have mo : mostB (m : Int) = true := by unfold mostB; rw [decide_eq_true (by omega), decide_eq_true (by omega)]; rfl
  have CP : ∀ (x : Int), VL x → ∀ w : World, Cvl.Lens w → _ := fun x hx w hw => Dy.scmp_any 0 x bi bu (BD x hx).1 (BD x hx).2 b1 b2 w hw
  have CQ : ∀ (q x : Int), VL q → VL x → ∀ w : World, Cvl.Lens w → _ := fun q x hq hx w hw => Dy.scmp_any 0 x 0 q (BD x hx).1 (BD x hx).2 (BD q hq).1 (BD q hq).2 w hw
  refine tz_run Ok T hT 0 u bi bu 0 M D U (m : Int) _ _ _ (fun w => by rw [← mo]; exact most_any _ w) RT (fun w hw => by rw [← SR u hu]; exact Dy.rst_any 0 u (BD u hu).1 (BD u hu).2 w (hOL w hw)) (fun w hw => by rw [← hb]; exact Dy.rst_any bi bu b1 b2 w (hOL w hw)) (fun w => by rw [← hp]; exact Sp.pr_any 0 M D U (by omega) (by omega) w) (fun w hw => ?_) w (fun W hB => hOk w W hL hB)
  refine fol_run Ok hOk _ _ znextE N (beyS bi bu d) (leadS d) VL u bi bu M D U d m hm hd0 hu _ _ rfl (fun x hx hbx w hw => ?_) hV (fun x hx w hw => ?_) (fun q x hq hx w hw => ?_) (fun w => by rw [← hd]; exact Sp.psign_any 0 M D U (by omega) (by omega) w) w hw
  · exact znext_any Ok T hT 0 x 0 M D U 0 (N x).1 (N x).2 (fun w hw => hN x hx hbx w hw) w (fun W hB => hOk w W hw hB)
  · exact bey_any 0 x bi bu d _ (CP x hx) w (Dy.lens_of (hOL w hw))
  · exact lead_any 0 q bi bu d 0 x bi bu d _ (CQ q x hq hx) w (Dy.lens_of (hOL w hw))

theorem arI_cons (x t : Int) (n : Nat) : arI x t (n + 1) = x :: arI (x + t) t n := by
  unfold arI
  rw [List.range_succ_eq_map, List.map_cons, List.map_map]
  congr 1
  · simp
  · apply List.map_congr_left
    intro k _
    simp only [Function.comp]
    rw [show ((k.succ : Nat) : Int) = (k : Int) + 1 by omega, Int.add_mul]
    omega
/-- the k-th one is the first one and k times the step, and can be. -/
theorem fol_ar {D U : Int} {bey : Int → Bool} {ld : Int → Int → Bool} : ∀ (k : Nat) (x : Int) (ah : Option Int) (l L : List Int), Dy.dok (x / 86400000000) = true → folF (nz D U) bey ld k x ah l = (L, 0) → ∃ n, n ≤ k ∧ L = l ++ arI x (D * 86400000000 + U) n ∧ ∀ i : Nat, i < n → Dy.dok ((x + (i : Int) * (D * 86400000000 + U)) / 86400000000) = true
  | 0, x, ah, l, L, hx, h => by
    cases hb : bey x
    · rw [fol_0 hb] at h; simp at h
    · rw [fol_bey hb] at h
      exact ⟨0, Nat.le_refl _, by simp [arI]; exact ((Prod.mk.inj h).1).symm, fun i hi => absurd hi (Nat.not_lt_zero i)⟩
  | k + 1, x, ah, l, L, hx, h => by
    cases hb : bey x
    · rw [fol_s hb] at h
      by_cases ho : okA ld ah x = false
      · rw [if_pos ho] at h; simp at h
      · rw [if_neg ho] at h
        by_cases he : (nz D U x).2 ≠ 0
        · rw [if_pos he] at h; exact absurd (Prod.mk.inj h).2 he
        · rw [if_neg he] at h
          obtain ⟨q1, q2⟩ := nz_ok (show (nz D U x).2 = 0 by omega)
          obtain ⟨n, hn, e, hv⟩ := fol_ar k _ _ _ _ q1 h
          rw [q2] at e hv
          refine ⟨n + 1, by omega, ?_, fun i hi => ?_⟩
          · rw [e, List.append_assoc, arI_cons]
            rfl
          · cases i with
            | zero => rw [show ((0 : Nat) : Int) = 0 from rfl, Int.zero_mul, Int.add_zero]; exact hx
            | succ i =>
              have := hv i (by omega)
              rw [show x + ((i + 1 : Nat) : Int) * (D * 86400000000 + U) = x + (D * 86400000000 + U) + (i : Int) * (D * 86400000000 + U) by rw [show ((i + 1 : Nat) : Int) = (i : Int) + 1 by omega, Int.add_mul]; omega]
              exact this
    · rw [fol_bey hb] at h
      exact ⟨0, by omega, by simp [arI]; exact ((Prod.mk.inj h).1).symm, fun i hi => absurd hi (Nat.not_lt_zero i)⟩

end Go.Proofs.YtpdmndlpgjjopaaGreatDoor
