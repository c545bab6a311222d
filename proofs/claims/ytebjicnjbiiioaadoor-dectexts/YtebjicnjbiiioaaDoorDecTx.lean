/- Contracts of dec.Text and of the reference's Text: a number with its places, as a text. -/
import Derived.Test.YtebjicnjbiiioaaDoorDecRe
import Derived.Test.YtebjicnjbiiioaaDoorDecK
import Derived.Test.YtebjicnjbiiioaaDoorDigA
import Derived.BigQuiet
import Derived.Deep.QuietTactic
namespace Go.Proofs.YtebjicnjbiiioaaDoor
open Go.RowKit
set_option linter.unusedVariables false

theorem digit_headT (u : Nat) : ∃ c l, Lib.decDigits u = c :: l ∧ c ≠ 45 := by
  have h := Lib.decDigits_eq u
  have hp := Lib.nDigits_pos u
  obtain ⟨k, hk⟩ : ∃ k, Lib.nDigits u = k + 1 := ⟨Lib.nDigits u - 1, by omega⟩
  rw [hk] at h
  rw [List.range_succ_eq_map] at h
  refine ⟨_, _, h, ?_⟩
  unfold Lib.dg
  have : ∀ d : Fin 10, UInt8.ofNat (48 + d.val) ≠ 45 := by decide
  exact this ⟨_, Nat.mod_lt _ (by decide)⟩
theorem cut_itoaT (n : Int) : Lib.trimPrefix (Lib.itoa n) [45] = Lib.decDigits n.natAbs ∧ Lib.hasPrefix (Lib.itoa n) [45] = decide (n < 0) := by
  unfold Lib.itoa
  by_cases h : n < 0
  · rw [if_pos h, decide_eq_true h]
    exact ⟨rfl, rfl⟩
  · rw [if_neg h, decide_eq_false h]
    obtain ⟨c, l, hc, hn⟩ := digit_headT n.toNat
    have e : n.natAbs = n.toNat := by omega
    rw [e, hc]
    have hp : Lib.hasPrefix (c :: l) [45] = false := by
      unfold Lib.hasPrefix
      simp only [List.isPrefixOf, Bool.and_eq_false_iff, beq_eq_false_iff_ne]
      exact .inl (fun k => hn k.symm)
    unfold Lib.trimPrefix
    rw [hp]
    exact ⟨rfl, rfl⟩
theorem repeat_zero (c : Nat) : Lib.repeatL [48] c = List.replicate c 48 := by
  induction c with
  | zero => rfl
  | succ c ih => rw [Lib.repeatL, ih, List.replicate_succ]; rfl

/-- a number's digits, and noughts ahead of them. -/
def digT (n : Int) : ByteArray := ⟨(Lib.decDigits n.natAbs).toArray⟩
def padT (n : Int) (s : Nat) : ByteArray := ⟨(padL (Lib.decDigits n.natAbs) s).toArray⟩
def bodT (P : ByteArray) (s : Nat) : ByteArray := ⟨(bodyL P.data.toList s).toArray⟩
theorem digT_size {n : Int} (h1 : -9223372036854775808 ≤ n) (h2 : n ≤ 9223372036854775807) : (digT n).size ≤ 21 := by
  have e : (digT n).size = (Lib.decDigits n.natAbs).length := rfl
  have hl := Lib.itoa_length_le n h1 h2
  rw [e]
  by_cases h : n < 0
  · have e2 : Lib.itoa n = 45 :: Lib.decDigits n.natAbs := by unfold Lib.itoa; rw [if_pos h]
    rw [e2] at hl; simp at hl; omega
  · have e2 : Lib.itoa n = Lib.decDigits n.toNat := by unfold Lib.itoa; rw [if_neg h]
    rw [e2, show n.toNat = n.natAbs by omega] at hl; exact hl
theorem padT_size (n : Int) (s : Nat) : s < (padT n s).size ∧ ((digT n).size ≤ 21 → s ≤ 9 → (padT n s).size ≤ 31) := by
  have e : (padT n s).size = (padL (Lib.decDigits n.natAbs) s).length := rfl
  have e2 : (digT n).size = (Lib.decDigits n.natAbs).length := rfl
  rw [e, e2]
  refine ⟨padL_length _ _, fun h1 h2 => ?_⟩
  unfold padL; simp; omega
theorem padT_no {n : Int} {s : Nat} (h : s + 1 ≤ (digT n).size) : padT n s = digT n := by
  have e2 : (digT n).size = (Lib.decDigits n.natAbs).length := rfl
  unfold padT digT padL
  rw [show s + 1 - (Lib.decDigits n.natAbs).length = 0 by omega]; rfl
theorem padT_yes (n : Int) (s k : Nat) (h : s + 1 - (digT n).size = k) : (⟨(Lib.repeatL [48] k).toArray⟩ : ByteArray) ++ digT n = padT n s := by
  have e2 : (digT n).size = (Lib.decDigits n.natAbs).length := rfl
  apply ba_ext
  unfold padT digT padL
  rw [ByteArray.data_append, repeat_zero, ← h, e2]
  simp
theorem bodT_zero (P : ByteArray) : bodT P 0 = P := by
  apply ba_ext
  unfold bodT bodyL
  simp
  exact List.take_of_length_le (by simp)
theorem bodT_size {P : ByteArray} {s : Nat} (h : s < P.size) : (bodT P s).size ≤ P.size + 1 := by
  have e : (bodT P s).size = (bodyL P.data.toList s).length := rfl
  have hl : P.data.toList.length = P.size := by simp
  rw [e, body_length (by omega), hl]
  split <;> omega
theorem repT_size (k : Nat) : (⟨(Lib.repeatL [48] k).toArray⟩ : ByteArray).size = k := by
  have e : (⟨(Lib.repeatL [48] k).toArray⟩ : ByteArray).size = (Lib.repeatL [48] k).length := by
    show (Lib.repeatL [48] k).toArray.size = _
    simp
  rw [e, repeat_zero, List.length_replicate]
theorem bodT_some (P : ByteArray) (s k : Nat) (hs : s ≠ 0) (hk : P.size - s = k) : P.extract 0 k ++ ⟨#[46]⟩ ++ P.extract k P.size = bodT P s := by
  have hl : P.data.toList.length = P.size := by simp
  apply ba_ext
  unfold bodT bodyL
  rw [if_neg hs, hl, hk]
  simp only [ByteArray.data_append, ByteArray.data_extract, Array.toList_append, Array.toList_extract, List.extract_eq_take_drop]
  simp [List.take_of_length_le, hl]
theorem dt_neg {n : Int} (s : Nat) (h : n < 0) : ⟨#[45]⟩ ++ bodT (padT n s) s = dtB n s := by
  apply ba_ext
  unfold dtB dtL bodT padT
  rw [if_pos h, ByteArray.data_append]
  simp
theorem dt_pos {n : Int} (s : Nat) (h : ¬ n < 0) : bodT (padT n s) s = dtB n s := by
  apply ba_ext
  unfold dtB dtL bodT padT
  rw [if_neg h]
  simp

set_option maxRecDepth 100000 in
set_option maxHeartbeats 1000000 in
theorem dtext_bad (n s : Int) (h : rt s = false) (w : World) :
    Calls Tryd.prog 9 #[.agg #[.int .i64 n, .int .i64 s]] w fun e w' => e = .returned (.string ⟨#[]⟩) ∧ Below w.heap.size w w' := by
  have F := Box.new w n s
  have HB : Hid (Below w.heap.size w (w.alloc (dbox n s))) := (Below.refl _ _).alloc (Nat.le_refl _) _
  go_enter Tryd.func9, Tryd.ntmps9
  go_wp2_with fail
  refine (dright_no _ _ h _).mono ?_
  rintro e w1 ⟨rfl, hb⟩
  have HB1 : Hid (Below w.heap.size w w1) := HB.out.trans (hb.mono HB.out.size)
  clear F HB hb
  go_wp2
  go_ret
  exact ⟨rfl, HB1.out⟩

set_option maxRecDepth 100000 in
set_option maxHeartbeats 4000000 in
theorem dtext_ok (n : Int) (s : Nat) (h1 : -9223372036854775808 ≤ n) (h2 : n ≤ 9223372036854775807) (hs : s ≤ 9) (w : World) (hT : Tab w) :
    Calls Tryd.prog 9 #[.agg #[.int .i64 n, .int .i64 (s : Int)]] w fun e w' => e = .returned (.string (dtB n s)) ∧ Below w.heap.size w w' := by
  have hD := digT_size h1 h2
  obtain ⟨p1, p2'⟩ := padT_size n s
  have p2 := p2' hD hs
  clear p2'
  obtain ⟨c1, c2⟩ := cut_itoaT n
  have H1 : Hid (∀ w : World, Tab w → Calls Tryd.prog 27 #[.int .i64 n, .int .i64 10] w fun e w' => e = .returned (.string ⟨(Lib.itoa n).toArray⟩) ∧ Below w.heap.size w w') := fun w h => formatInt_any n h1 h2 w h
  have H2 : Hid (∀ w : World, Calls Tryd.prog 26 #[.string ⟨(Lib.itoa n).toArray⟩, .string ⟨#[45]⟩] w fun e w' => e = .returned (.tuple #[.string (digT n), .bool (decide (n < 0))]) ∧ w' = w) := fun w => by
    have := Tryd.strings_CutPrefix ⟨(Lib.itoa n).toArray⟩ ⟨#[45]⟩ w
    rw [show (⟨(Lib.itoa n).toArray⟩ : ByteArray).data.toList = Lib.itoa n by simp, show (⟨#[45]⟩ : ByteArray).data.toList = [45] from rfl, c1, c2] at this
    exact this
  have F := Box.new w n s
  have HB : Hid (Below w.heap.size w (w.alloc (dbox n s))) := (Below.refl _ _).alloc (Nat.le_refl _) _
  have PY : Hid (∀ k : Nat, s + 1 - (digT n).size = k → (⟨(Lib.repeatL [48] k).toArray⟩ : ByteArray) ++ digT n = padT n s) := padT_yes n s
  have PN : Hid (s + 1 ≤ (digT n).size → padT n s = digT n) := padT_no
  have HR : Hid (n < 0 → ⟨#[45]⟩ ++ bodT (padT n s) s = dtB n s) := dt_neg s
  have HQ : Hid (¬ n < 0 → bodT (padT n s) s = dtB n s) := dt_pos s
  have BZ : Hid (s = 0 → bodT (padT n s) s = padT n s) := fun e => by rw [e]; exact bodT_zero _
  have BS : Hid (∀ k : Nat, s ≠ 0 → (padT n s).size - s = k → (padT n s).extract 0 k ++ ⟨#[46]⟩ ++ (padT n s).extract k (padT n s).size = bodT (padT n s) s) := bodT_some _ s
  have q1 : (bodT (padT n s) s).size ≤ 32 := by have := bodT_size p1; omega
  clear c1 c2
  generalize dtB n s = R at *
  generalize bodT (padT n s) s = Q at *
  generalize padT n s = P at *
  generalize digT n = D at *
  generalize (⟨(Lib.itoa n).toArray⟩ : ByteArray) = I at *
  go_enter Tryd.func9, Tryd.ntmps9
  go_wp2_with fail
  refine (dright_yes _ _ (rt_nat hs) _).mono ?_
  rintro e w1 ⟨rfl, hb⟩
  have F1 := F.below hb F.1
  have HB1 : Hid (Below w.heap.size w w1) := HB.out.trans (hb.mono HB.out.size)
  have T1 := hT.below HB1.out
  clear F HB hb hT
  obtain ⟨x1, x2, x3, x4, x5⟩ := id F1
  go_wp2_with fail
  refine (H1.out _ T1).mono ?_
  rintro e w2 ⟨rfl, hb⟩
  have F2 := F1.below hb F1.1
  have HB2 : Hid (Below w.heap.size w w2) := HB1.out.trans (hb.mono HB1.out.size)
  clear F1 HB1 hb T1 x1 x2 x3 x4 x5 H1
  obtain ⟨x1, x2, x3, x4, x5⟩ := id F2
  go_wp2_with fail
  refine (H2.out _).mono ?_
  rintro e w3 ⟨rfl, rfl⟩
  clear H2
  have hw1 : IntKind.i64.wrap ((s : Int) + 1) = (s : Int) + 1 := by rw [IntKind.wrap_i64]; omega
  have hw2 : IntKind.i64.wrap ((s : Int) + 1 - (D.size : Int)) = (s : Int) + 1 - (D.size : Int) := by rw [IntKind.wrap_i64]; omega
  go_upto_if 24 with fail
  go_cut [3] (fun p W => p = .string P ∧ Box W w.heap.size n s ∧ Below w.heap.size w W)
  case first =>
    by_cases hk : 0 < (s : Int) + 1 - (D.size : Int)
    · obtain ⟨k, hk2⟩ : ∃ k : Nat, s + 1 - D.size = k := ⟨_, rfl⟩
      have hk3 : (s : Int) + 1 - (D.size : Int) = (k : Int) := by omega
      have HP : Hid ((⟨(Lib.repeatL [48] k).toArray⟩ : ByteArray) ++ D = P) := PY.out k hk2
      have H3 : Hid (∀ w : World, Calls Tryd.prog 28 #[.string ⟨#[48]⟩, .int .i64 ((s : Int) + 1 - (D.size : Int))] w fun e w' => e = .returned (.string ⟨(Lib.repeatL [48] k).toArray⟩) ∧ Below w.heap.size w w') := fun w => by
        rw [hk3]
        exact Tryd.strings_Repeat ⟨#[48]⟩ k w (by omega) (by
          show 1 * k ≤ _
          omega)
      have zs := repT_size k
      clear hk3
      clear PY PN HR HQ BZ BS
      generalize (⟨(Lib.repeatL [48] k).toArray⟩ : ByteArray) = Z at *
      have zs2 : Z.size + D.size ≤ 9223372036854775807 := by omega
      go_wp2_with fail
      refine (H3.out _).mono ?_
      rintro e w4 ⟨rfl, hb⟩
      have F3 := F2.below hb F2.1
      have HB3 : Hid (Below w.heap.size w w4) := HB2.out.trans (hb.mono HB2.out.size)
      clear F2 HB2 hb x1 x2 x3 x4 x5
      go_wp2_with fail
      go_meet
      case rel => exact ⟨by rw [HP.out], F3, HB3.out⟩
    · have HP : Hid (P = D) := PN.out (by omega)
      clear PY PN HR HQ BZ BS
      go_wp2_with fail
      go_meet
      case rel => exact ⟨by rw [HP.out], F2, HB2.out⟩
  case rest =>
    clear F2 HB2 x1 x2 x3 x4 x5 PY PN hw1 hw2
    obtain ⟨rfl, F2, hB2⟩ := hcut
    have HB2 : Hid (Below w.heap.size w wc) := hB2
    clear hB2
    obtain ⟨x1, x2, x3, x4, x5⟩ := id F2
    go_upto_if 31 with fail
    go_cut [3] (fun p W => p = .string Q ∧ Below w.heap.size w W)
    case first =>
      by_cases h0 : s = 0
      · have HP : Hid (Q = P) := BZ.out h0
        have h0' : ¬ (0 : Int) < (s : Int) := by omega
        clear BZ BS HR HQ h0
        go_wp2_with fail
        go_meet
        case rel => exact ⟨by rw [HP.out], HB2.out⟩
      · obtain ⟨k, hk⟩ : ∃ k : Nat, P.size - s = k := ⟨_, rfl⟩
        have HP : Hid (P.extract 0 k ++ ⟨#[46]⟩ ++ P.extract k P.size = Q) := BS.out k h0 hk
        have h0' : (0 : Int) < (s : Int) := by omega
        have hw : IntKind.i64.wrap ((P.size : Int) - (s : Int)) = (k : Int) := by rw [IntKind.wrap_i64]; omega
        have c1 : (0 : Int) ≤ (k : Int) := by omega
        have c2 : (k : Int) ≤ (P.size : Int) := by omega
        clear BZ BS HR HQ h0
        go_wp2_with fail
        go_quiet (fail)
        go_wp2_with fail
        go_meet
        case rel => exact ⟨by rw [← HP.out], below_drewN HB2.out nq⟩
    case rest =>
      clear F2 HB2 x1 x2 x3 x4 x5 BZ BS
      obtain ⟨rfl, hB2⟩ := hcut
      by_cases hn : n < 0
      · have HP := HR.out hn
        rw [decide_eq_true hn]
        have HP' : Hid (⟨#[45]⟩ ++ Q = R) := HP
        have zs2 : (⟨#[45]⟩ : ByteArray).size + Q.size ≤ 9223372036854775807 := by
          show 1 + Q.size ≤ _
          omega
        clear HP HR HQ
        go_wp2_with fail
        go_ret
        exact ⟨ret_str HP'.out, hB2⟩
      · have HP := HQ.out (by omega)
        rw [decide_eq_false hn]
        have HP' : Hid (Q = R) := HP
        clear HP HR HQ
        go_wp2_with fail
        go_ret
        exact ⟨ret_str HP'.out, hB2⟩

set_option maxHeartbeats 400000 in
theorem eright_yesT (n s : Int) (h : rt s = true) (w : World) :
    Calls Tryd.prog 15 #[.agg #[.int .i64 n, .int .i64 s]] w fun e w' => e = .returned (.bool true) ∧ Below w.heap.size w w' := by
  obtain ⟨h1, h2⟩ := rt_yes h
  clear h
  go_enter Tryd.func15, Tryd.ntmps15
  go_wp2
  go_ret
  exact ⟨rfl, (by repeat' (first | assumption | exact Below.refl _ _ | exact Nat.le_refl _ | refine Below.alloc ?_ ?_ _ | (simp; done) | (simp; omega) | omega))⟩

set_option maxHeartbeats 400000 in
theorem eright_noT (n s : Int) (h : rt s = false) (w : World) :
    Calls Tryd.prog 15 #[.agg #[.int .i64 n, .int .i64 s]] w fun e w' => e = .returned (.bool false) ∧ Below w.heap.size w w' := by
  have h1 := rt_no h
  clear h
  rcases h1 with h1 | h1
  · go_enter Tryd.func15, Tryd.ntmps15
    go_wp2
    go_ret
    exact ⟨rfl, (by repeat' (first | assumption | exact Below.refl _ _ | exact Nat.le_refl _ | refine Below.alloc ?_ ?_ _ | (simp; done) | (simp; omega) | omega))⟩
  · have h2 : 0 ≤ s := by omega
    go_enter Tryd.func15, Tryd.ntmps15
    go_wp2
    go_ret
    exact ⟨ret_bool (decide_eq_false (by omega)), (by repeat' (first | assumption | exact Below.refl _ _ | exact Nat.le_refl _ | refine Below.alloc ?_ ?_ _ | (simp; done) | (simp; omega) | omega))⟩

abbrev rbx (n s : Int) : Obj := .cells #[.int .i64 n, .int .i64 s] 23
theorem Box.newR (w : World) (n s : Int) : Box (w.alloc (rbx n s)) w.heap.size n s :=
  ⟨by simp, by rw [World.cell?_alloc_at _ _ _ _ rfl]; rfl, by rw [World.cell?_alloc_at _ _ _ _ rfl]; rfl, by rw [World.frozen?_alloc_at _ _ _ _ rfl], by rw [World.frozen?_alloc_at _ _ _ _ rfl]⟩

set_option maxRecDepth 100000 in
set_option maxHeartbeats 1000000 in
theorem etext_bad (n s : Int) (h : rt s = false) (w : World) :
    Calls Tryd.prog 13 #[.agg #[.int .i64 n, .int .i64 s]] w fun e w' => e = .returned (.string ⟨#[]⟩) ∧ Below w.heap.size w w' := by
  have F := Box.newR w n s
  have HB : Hid (Below w.heap.size w (w.alloc (rbx n s))) := (Below.refl _ _).alloc (Nat.le_refl _) _
  go_enter Tryd.func13, Tryd.ntmps13
  go_wp2_with fail
  refine (eright_noT _ _ h _).mono ?_
  rintro e w1 ⟨rfl, hb⟩
  have HB1 : Hid (Below w.heap.size w w1) := HB.out.trans (hb.mono HB.out.size)
  clear F HB hb
  go_wp2
  go_ret
  exact ⟨rfl, HB1.out⟩

/-- noughts ahead of digits, so many. -/
def nought (n : Int) (k : Nat) : ByteArray := ⟨(List.replicate k 48 ++ Lib.decDigits n.natAbs).toArray⟩
theorem nought_zero (n : Int) : nought n 0 = digT n := rfl
theorem nought_more (n : Int) (k : Nat) : ⟨#[48]⟩ ++ nought n k = nought n (k + 1) := by
  apply ba_ext
  unfold nought
  rw [ByteArray.data_append, List.replicate_succ]
  simp
theorem nought_size (n : Int) (k : Nat) : (nought n k).size = k + (digT n).size := by
  have e1 : (nought n k).size = (List.replicate k 48 ++ Lib.decDigits n.natAbs).length := rfl
  have e2 : (digT n).size = (Lib.decDigits n.natAbs).length := rfl
  rw [e1, e2]; simp
theorem nought_end (n : Int) (k s : Nat) (h : ¬ (nought n k).size ≤ s) (h2 : k = 0 ∨ (nought n k).size = s + 1) : nought n k = padT n s := by
  have e2 : (digT n).size = (Lib.decDigits n.natAbs).length := rfl
  rw [nought_size] at h h2
  unfold nought padT padL
  rw [show s + 1 - (Lib.decDigits n.natAbs).length = k by omega]
theorem itoa_tail {n : Int} (h : n < 0) : (⟨(Lib.itoa n).toArray⟩ : ByteArray).extract 1 (⟨(Lib.itoa n).toArray⟩ : ByteArray).size = digT n ∧ 1 ≤ (⟨(Lib.itoa n).toArray⟩ : ByteArray).size := by
  have e : Lib.itoa n = 45 :: Lib.decDigits n.natAbs := by unfold Lib.itoa; rw [if_pos h]
  have hz : (⟨(Lib.itoa n).toArray⟩ : ByteArray).size = (Lib.decDigits n.natAbs).length + 1 := by
    show (Lib.itoa n).toArray.size = _
    rw [e]; simp
  refine ⟨?_, by omega⟩
  apply ba_ext
  rw [ByteArray.data_extract, Array.toList_extract, hz]
  unfold digT
  rw [e]
  simp [List.extract_eq_take_drop]
theorem itoa_all {n : Int} (h : ¬ n < 0) : (⟨(Lib.itoa n).toArray⟩ : ByteArray) = digT n := by
  unfold Lib.itoa digT
  rw [if_neg h, show n.natAbs = n.toNat by omega]
theorem ebody_neg (P : ByteArray) (s k : Nat) (hs : s ≠ 0) (hk : P.size - s = k) : (⟨#[45]⟩ ++ P.extract 0 k) ++ ⟨#[46]⟩ ++ P.extract k P.size = ⟨#[45]⟩ ++ bodT P s := by
  rw [← bodT_some P s k hs hk]
  simp only [ByteArray.append_assoc]
theorem ebody_neg0 (P : ByteArray) (k : Nat) (hk : P.size - 0 = k) : ⟨#[45]⟩ ++ P.extract 0 k = ⟨#[45]⟩ ++ bodT P 0 := by
  rw [bodT_zero, ← hk]; simp
theorem ebody_pos (P : ByteArray) (s k : Nat) (hs : s ≠ 0) (hk : P.size - s = k) : ((⟨#[]⟩ : ByteArray) ++ P.extract 0 k) ++ ⟨#[46]⟩ ++ P.extract k P.size = bodT P s := by
  rw [← bodT_some P s k hs hk]
  have e : (⟨#[]⟩ : ByteArray) ++ P.extract 0 k = P.extract 0 k := by
    apply ba_ext
    simp [ByteArray.data_append]
  rw [e]
theorem ebody_pos0 (P : ByteArray) (k : Nat) (hk : P.size - 0 = k) : (⟨#[]⟩ : ByteArray) ++ P.extract 0 k = bodT P 0 := by
  rw [bodT_zero, ← hk]
  apply ba_ext
  simp [ByteArray.data_append]

set_option maxRecDepth 100000 in
set_option maxHeartbeats 4000000 in
theorem etext_ok (n : Int) (s : Nat) (h1 : -9223372036854775808 ≤ n) (h2 : n ≤ 9223372036854775807) (hs : s ≤ 9) (w : World) :
    Calls Tryd.prog 13 #[.agg #[.int .i64 n, .int .i64 (s : Int)]] w fun e w' => e = .returned (.string (dtB n s)) ∧ Below w.heap.size w w' := by
  have hD := digT_size h1 h2
  obtain ⟨p1, p2'⟩ := padT_size n s
  have p2 := p2' hD hs
  clear p2'
  have H1 : Hid (∀ w : World, Calls Tryd.prog 39 #[.int .i64 n] w fun e w' => e = .returned (.string ⟨(Lib.itoa n).toArray⟩) ∧ Below w.heap.size w w') := digits_any n h1 h2
  have I1 : Hid (n < 0 → (⟨(Lib.itoa n).toArray⟩ : ByteArray).extract 1 (⟨(Lib.itoa n).toArray⟩ : ByteArray).size = digT n ∧ 1 ≤ (⟨(Lib.itoa n).toArray⟩ : ByteArray).size) := itoa_tail
  have I2 : Hid (¬ n < 0 → (⟨(Lib.itoa n).toArray⟩ : ByteArray) = digT n) := itoa_all
  have F := Box.newR w n s
  have HB : Hid (Below w.heap.size w (w.alloc (rbx n s))) := (Below.refl _ _).alloc (Nat.le_refl _) _
  generalize (⟨(Lib.itoa n).toArray⟩ : ByteArray) = I at *
  go_enter Tryd.func13, Tryd.ntmps13
  go_wp2_with fail
  refine (eright_yesT _ _ (rt_nat hs) _).mono ?_
  rintro e w1 ⟨rfl, hb⟩
  have F1 := F.below hb F.1
  have HB1 : Hid (Below w.heap.size w w1) := HB.out.trans (hb.mono HB.out.size)
  clear F HB hb
  obtain ⟨x1, x2, x3, x4, x5⟩ := id F1
  go_wp2_with fail
  refine (H1.out _).mono ?_
  rintro e w2 ⟨rfl, hb⟩
  have F2 := F1.below hb F1.1
  have HB2 : Hid (Below w.heap.size w w2) := HB1.out.trans (hb.mono HB1.out.size)
  clear F1 HB1 hb x1 x2 x3 x4 x5 H1
  obtain ⟨x1, x2, x3, x4, x5⟩ := id F2
  go_upto_if 14 with fail
  go_cut [3, 4] (fun p q W => p = .string (digT n) ∧ q = .string (if n < 0 then ⟨#[45]⟩ else ⟨#[]⟩) ∧ W = w2)
  case first =>
    by_cases hn : n < 0
    · obtain ⟨i1, i2⟩ := I1.out hn
      have i2' : (1 : Int) ≤ (I.size : Int) := by omega
      have HI : Hid (I.extract 1 I.size = digT n) := i1
      have HN : Hid (n < 0) := hn
      clear I1 I2 i1 i2
      go_wp2_with fail
      go_meet
      case rel => exact ⟨by rw [HI.out], by rw [if_pos HN.out], rfl⟩
    · have HI : Hid (I = digT n) := I2.out (by omega)
      have HN : Hid (¬ n < 0) := hn
      clear I1 I2
      go_wp2_with fail
      go_meet
      case rel => exact ⟨by rw [HI.out], by rw [if_neg (by have := HN.out; omega)], rfl⟩
  case rest =>
    clear I1 I2
    obtain ⟨rfl, rfl, rfl⟩ := hcut
    obtain ⟨sgn, hsg⟩ : ∃ x : ByteArray, (if n < 0 then (⟨#[45]⟩ : ByteArray) else ⟨#[]⟩) = x := ⟨_, rfl⟩
    rw [hsg]
    have HS : Hid ((if n < 0 then (⟨#[45]⟩ : ByteArray) else ⟨#[]⟩) = sgn) := hsg
    have hs1 : sgn.size ≤ 1 := by
      rw [← hsg]; split <;> decide
    clear hsg
    rw [← nought_zero]
    go_wp2_with fail
    go_loopw [3] (fun p wr => ∃ k : Nat, p = .string (nought n k) ∧ (k = 0 ∨ (nought n k).size ≤ s + 1) ∧ wr = wc) (fun p _ => s + 1 - (match p with | .string b => b.size | _ => 0))
    case atStart => exact ⟨0, rfl, .inl rfl, rfl⟩
    case round =>
      obtain ⟨k, rfl, hk, rfl⟩ := hrel
      have hz := nought_size n k
      by_cases hle : (nought n k).size ≤ s
      · have hle' : ((nought n k).size : Int) ≤ (s : Int) := by omega
        have HM : Hid (⟨#[48]⟩ ++ nought n k = nought n (k + 1)) := nought_more n k
        have hz2 := nought_size n (k + 1)
        have zs2 : (⟨#[48]⟩ : ByteArray).size + (nought n k).size ≤ 9223372036854775807 := by
          show 1 + _ ≤ _
          omega
        have HZ : Hid ((nought n (k + 1)).size = (nought n k).size + 1) := by
          show _ = _
          omega
        clear hk hz hz2
        go_wp2
        refine ⟨⟨k + 1, by rw [HM.out], .inr (by rw [HZ.out]; omega), trivial⟩, ?_⟩
        simp only [HM.out]
        rw [HZ.out]; omega
      · have hE := nought_end n k s hle (by rcases hk with hk | hk
                                            · exact .inl hk
                                            · exact .inr (by omega))
        rw [hE] at hle ⊢
        have hle' : ¬ ((padT n s).size : Int) ≤ (s : Int) := by omega
        clear hE hz hk
        obtain ⟨j, hj⟩ : ∃ j : Nat, (padT n s).size - s = j := ⟨_, rfl⟩
        have hw : IntKind.i64.wrap (((padT n s).size : Int) - (s : Int)) = (j : Int) := by rw [IntKind.wrap_i64]; omega
        have c1 : (0 : Int) ≤ (j : Int) := by omega
        have c2 : (j : Int) ≤ ((padT n s).size : Int) := by omega
        have HJ : Hid ((padT n s).size - s = j) := hj
        have e1 : ((padT n s).extract 0 j).size = j := by rw [ByteArray.size_extract]; omega
        have e2 : ((padT n s).extract j (padT n s).size).size = s := by rw [ByteArray.size_extract]; omega
        have z1 : sgn.size + ((padT n s).extract 0 j).size ≤ 9223372036854775807 := by omega
        have z2 : (sgn ++ (padT n s).extract 0 j).size + (⟨#[46]⟩ : ByteArray).size ≤ 9223372036854775807 := by
          rw [ByteArray.size_append]
          show _ + 1 ≤ _
          omega
        have z3 : (sgn ++ (padT n s).extract 0 j ++ ⟨#[46]⟩).size + ((padT n s).extract j (padT n s).size).size ≤ 9223372036854775807 := by
          rw [ByteArray.size_append, ByteArray.size_append]
          show _ + 1 + _ ≤ _
          omega
        clear e1 e2 hj hle
        by_cases h0 : s = 0
        · have h0' : ¬ (0 : Int) < (s : Int) := by omega
          have HP : Hid (sgn ++ (padT n s).extract 0 j = dtB n s) := by
            show _ = _
            rw [← HS.out]
            by_cases hn : n < 0
            · rw [if_pos hn, ← dt_neg s hn]
              have := HJ.out
              clear HB2 HS HJ
              subst h0
              exact ebody_neg0 _ _ this
            · rw [if_neg hn, ← dt_pos s hn]
              have := HJ.out
              clear HB2 HS HJ
              subst h0
              exact ebody_pos0 _ _ this
          clear HS HJ h0
          go_wp2_with fail
          go_ret
          exact ⟨ret_str HP.out, HB2.out⟩
        · have h0' : (0 : Int) < (s : Int) := by omega
          have HP : Hid (sgn ++ (padT n s).extract 0 j ++ ⟨#[46]⟩ ++ (padT n s).extract j (padT n s).size = dtB n s) := by
            show _ = _
            rw [← HS.out]
            by_cases hn : n < 0
            · rw [if_pos hn, ← dt_neg s hn]
              exact ebody_neg _ _ _ h0 HJ.out
            · rw [if_neg hn, ← dt_pos s hn]
              exact ebody_pos _ _ _ h0 HJ.out
          clear HS HJ h0
          go_wp2_with fail
          go_ret
          exact ⟨ret_str HP.out, HB2.out⟩

end Go.Proofs.YtebjicnjbiiioaaDoor
