import Derived.Test.YtcmefhnfdcngfaaDoorP30
import Derived.Deep.CutRange
/- The reference's Find of any operation and kinds. -/
namespace Go.Proofs.YtcmefhnfdcngfaaDoor
open Go.RowKit
set_option linter.unusedVariables false

theorem gen_exH {Q : Exit → Act → World → Prop} {e : Exit} {a : Act} {W : World} (P : World → Prop) (h : P W) (k : ∀ V, P V → Q e a V) : Q e a W := k W h
theorem cmF_len {op : ByteArray} {args : List Int} (h : args.length ≠ 2) : cmF op args = false := by
  unfold cmF
  match args, h with
  | [], _ => simp
  | [_], _ => simp
  | [_, _], h => exact absurd rfl h
  | _ :: _ :: _ :: _, _ => simp
theorem cmF_two (op : ByteArray) (a b : Int) : cmF op [a, b] = (isC op && cm2 (isB op) a b) := rfl
theorem len_two {l : List Int} (h : l.length = 2) : ∃ a b, l = [a, b] := by
  match l, h with
  | [a, b], _ => exact ⟨a, b, rfl⟩

set_option maxRecDepth 100000 in
set_option maxHeartbeats 8000000 in
theorem rfind_any (op : ByteArray) (args : List Int) (va : Value) (w : World) (ha : IR w va args) :
    Calls Tryd.prog 7 #[.string op, va] w fun e w' => e = .returned (finV op (finF op args)) ∧ Below w.heap.size w w' := by
  rw [fin_ref]
  have HA : Hid (IR w va args) := ha
  obtain ⟨q, cq, hva, hcq⟩ : ∃ q cq, va = .slice q args.length cq ∧ args.length ≤ cq ∧ cq ≤ maxLen := by obtain ⟨p, c, e, h1, h2, _⟩ := ha; exact ⟨p, c, e, h1, h2⟩
  clear ha
  subst hva
  obtain ⟨C, hC⟩ : ∃ C, isC op = C := ⟨_, rfl⟩
  obtain ⟨B, hB⟩ : ∃ B, isB op = B := ⟨_, rfl⟩
  have HCm := rcompares_any op w
  rw [hC, hB] at HCm
  have HCC : Hid _ := HCm
  have HC : Hid (isC op = C) := hC
  have HB : Hid (isB op = B) := hB
  have hcI : (args.length : Int) ≤ 9223372036854775807 := by unfold maxLen at hcq; omega
  clear HCm hC hB
  go_enter Tryd.func7, Tryd.ntmps7
  go_wp2_with fail
  refine Calls.mono HCC.out ?_
  rintro e W ⟨rfl, hW⟩
  have HW : Hid (Below w.heap.size w W) := by rw [hW]; exact Below.refl _ _
  have HAW : Hid (IR W (.slice q args.length cq) args) := by rw [hW]; exact HA.out
  clear hW HCC HA
  go_upto_region 2 with fail
  go_cut [24] from 19 (fun t V => ∃ b, t = .bool b ∧ Hid (b = (C && decide (args.length = 2))) ∧ Hid (Below w.heap.size w V) ∧ Hid (IR V (.slice q args.length cq) args))
  case first =>
    cases C
    · go_wp2_with fail
      go_meet
      case rel => exact ⟨_, rfl, rfl, HW, HAW⟩
    · by_cases h2 : args.length = 2
      · have h2I : ((args.length : Int) == 2) = true := by simp; omega
        have HD : Hid (args.length = 2) := h2
        clear h2
        go_wp2_with fail
        go_meet
        case rel => exact ⟨_, rfl, by rw [HD.out]; rfl, HW, HAW⟩
      · have h2I : ((args.length : Int) == 2) = false := by simp; omega
        have HD : Hid (¬ args.length = 2) := h2
        clear h2
        go_wp2_with fail
        go_meet
        case rel => exact ⟨_, rfl, by rw [decide_eq_false HD.out]; rfl, HW, HAW⟩
  case rest =>
    clear HW HAW
    obtain ⟨b, rfl, Hb, HW, HAW⟩ := hcut
    go_upto_if 24 with fail
    go_cut [] from 25 (fun V => Hid (Below w.heap.size w V) ∧ Hid (IR V (.slice q args.length cq) args) ∧ Hid (cmF op args = false))
    case first =>
      cases b
      · go_wp2_with fail
        go_meet
        case rel =>
          refine ⟨HW, HAW, ?_⟩
          show cmF op args = false
          by_cases hl : args.length = 2
          · have h1 := Hb.out
            rw [decide_eq_true hl, Bool.and_true] at h1
            unfold cmF
            rw [HC.out, ← h1]
            rfl
          · exact cmF_len hl
      · have h1 : args.length = 2 ∧ C = true := by
          have h1 := Hb.out
          symm at h1
          rw [Bool.and_eq_true, decide_eq_true_eq] at h1
          exact ⟨h1.2, h1.1⟩
        obtain ⟨h1, rfl⟩ := h1
        obtain ⟨a, b, rfl⟩ := len_two h1
        obtain ⟨p0, c0, e0, k1, k2, k3⟩ := HAW.out
        cases e0
        obtain ⟨g, o, rfl, hlt, z0⟩ := k3 0 _ rfl
        obtain ⟨g', o', e1, hlt', z1⟩ := k3 1 _ rfl
        cases e1
        rw [Nat.add_zero] at z0
        have HWC : Hid (Below w.heap.size w wc) := HW
        have HAC : Hid (IR wc (.slice (some ⟨g, o, none⟩) [a, b].length cq) [a, b]) := HAW
        clear HW HAW k3 h1 Hb hlt' hcI
        simp only [List.length_cons, List.length_nil, Nat.zero_add, Nat.reduceAdd] at k1 HAC ⊢
        unfold maxLen at k2
        have k1I : (2 : Int) ≤ (cq : Int) := by omega
        have k2I : (cq : Int) ≤ 9223372036854775807 := by omega
        go_upto_region 5 with fail
        clear z0 z1
        go_cut [11] from 31 to 44 (fun t V => ∃ n, t = .bool n ∧ Hid (n = nm2 a b) ∧ Hid (Below w.heap.size w V) ∧ Hid (IR V (.slice (some ⟨g, o, none⟩) 2 cq) [a, b]))
        case first =>
          by_cases a2 : a = 2
          · by_cases b2 : b = 2
            · have ga2 : (a == 2) = true := by simp; omega
              have gb2 : (b == 2) = true := by simp; omega
              have HN : Hid (nm2 a b = true) := by show nm2 a b = true; unfold nm2; simp [*]
              go_wp2_with fail
              go_meet
              case rel => exact ⟨_, rfl, (by rw [HN.out]; exact rfl), HWC, HAC⟩
            · by_cases b3 : b = 3
              · have ga2 : (a == 2) = true := by simp; omega
                have gb2 : (b == 2) = false := by simp; omega
                have gb3 : (b == 3) = true := by simp; omega
                have HN : Hid (nm2 a b = true) := by show nm2 a b = true; unfold nm2; simp [*]
                go_wp2_with fail
                go_meet
                case rel => exact ⟨_, rfl, (by rw [HN.out]; exact rfl), HWC, HAC⟩
              · have ga2 : (a == 2) = true := by simp; omega
                have gb2 : (b == 2) = false := by simp; omega
                have gb3 : (b == 3) = false := by simp; omega
                have HN : Hid (nm2 a b = false) := by show nm2 a b = false; unfold nm2; simp [*]
                go_wp2_with fail
                go_meet
                case rel => exact ⟨_, rfl, (by rw [HN.out]; exact rfl), HWC, HAC⟩
          · by_cases a3 : a = 3
            · by_cases b2 : b = 2
              · have ga2 : (a == 2) = false := by simp; omega
                have ga3 : (a == 3) = true := by simp; omega
                have gb2 : (b == 2) = true := by simp; omega
                have HN : Hid (nm2 a b = true) := by show nm2 a b = true; unfold nm2; simp [*]
                go_wp2_with fail
                go_meet
                case rel => exact ⟨_, rfl, (by rw [HN.out]; exact rfl), HWC, HAC⟩
              · by_cases b3 : b = 3
                · have ga2 : (a == 2) = false := by simp; omega
                  have ga3 : (a == 3) = true := by simp; omega
                  have gb2 : (b == 2) = false := by simp; omega
                  have gb3 : (b == 3) = true := by simp; omega
                  have HN : Hid (nm2 a b = true) := by show nm2 a b = true; unfold nm2; simp [*]
                  go_wp2_with fail
                  go_meet
                  case rel => exact ⟨_, rfl, (by rw [HN.out]; exact rfl), HWC, HAC⟩
                · have ga2 : (a == 2) = false := by simp; omega
                  have ga3 : (a == 3) = true := by simp; omega
                  have gb2 : (b == 2) = false := by simp; omega
                  have gb3 : (b == 3) = false := by simp; omega
                  have HN : Hid (nm2 a b = false) := by show nm2 a b = false; unfold nm2; simp [*]
                  go_wp2_with fail
                  go_meet
                  case rel => exact ⟨_, rfl, (by rw [HN.out]; exact rfl), HWC, HAC⟩
            · have ga2 : (a == 2) = false := by simp; omega
              have ga3 : (a == 3) = false := by simp; omega
              have HN : Hid (nm2 a b = false) := by show nm2 a b = false; unfold nm2; simp [*]
              go_wp2_with fail
              go_meet
              case rel => exact ⟨_, rfl, (by rw [HN.out]; exact rfl), HWC, HAC⟩
        case rest =>
          clear HWC HAC
          obtain ⟨n, rfl, Hn, HWC, HAC⟩ := hcut
          go_upto_region 6 with fail
          go_cut [69] from 45 to 69 (fun t V => ∃ n, t = .bool n ∧ Hid (n = cm2 B a b) ∧ Hid (Below w.heap.size w V) ∧ Hid (IR V (.slice (some ⟨g, o, none⟩) 2 cq) [a, b]))
          case first =>
            cases n
            · by_cases ab : a = b
              · subst ab
                have gab : (a == a) = true := by simp
                by_cases a4 : 4 ≤ a
                · by_cases a8 : a ≤ 8
                  · have HN : Hid (cm2 B a a = true) := by show cm2 B a a = true; unfold cm2; rw [← Hn.out]; simp [*]
                    try clear a1
                    go_wp2_with fail
                    go_meet
                    case rel => exact ⟨_, rfl, (by rw [HN.out]; exact rfl), HWC, HAC⟩
                  · cases B
                    · have HN : Hid (cm2 false a a = false) := by show cm2 false a a = false; unfold cm2; rw [← Hn.out]; simp [*]
                      try clear a1
                      go_wp2_with fail
                      go_meet
                      case rel => exact ⟨_, rfl, (by rw [HN.out]; exact rfl), HWC, HAC⟩
                    · by_cases a1 : a = 1
                      · exfalso; omega
                      · have ga1 : (a == 1) = false := by simp; omega
                        have HN : Hid (cm2 true a a = false) := by show cm2 true a a = false; unfold cm2; rw [← Hn.out]; simp [*]
                        try clear a1
                        go_wp2_with fail
                        go_meet
                        case rel => exact ⟨_, rfl, (by rw [HN.out]; exact rfl), HWC, HAC⟩
                · cases B
                  · have HN : Hid (cm2 false a a = false) := by show cm2 false a a = false; unfold cm2; rw [← Hn.out]; simp [*]
                    try clear a1
                    go_wp2_with fail
                    go_meet
                    case rel => exact ⟨_, rfl, (by rw [HN.out]; exact rfl), HWC, HAC⟩
                  · by_cases a1 : a = 1
                    · have ga1 : (a == 1) = true := by simp; omega
                      skip
                      have HN : Hid (cm2 true a a = true) := by show cm2 true a a = true; unfold cm2; rw [← Hn.out]; simp [*]
                      try clear a1
                      go_wp2_with fail
                      go_meet
                      case rel => exact ⟨_, rfl, (by rw [HN.out]; exact rfl), HWC, HAC⟩
                    · have ga1 : (a == 1) = false := by simp; omega
                      have HN : Hid (cm2 true a a = false) := by show cm2 true a a = false; unfold cm2; rw [← Hn.out]; simp [*]
                      try clear a1
                      go_wp2_with fail
                      go_meet
                      case rel => exact ⟨_, rfl, (by rw [HN.out]; exact rfl), HWC, HAC⟩
              · have gab : (a == b) = false := by simp; omega
                cases B
                · have HN : Hid (cm2 false a b = false) := by show cm2 false a b = false; unfold cm2; rw [← Hn.out]; simp [*]
                  try clear a1
                  go_wp2_with fail
                  go_meet
                  case rel => exact ⟨_, rfl, (by rw [HN.out]; exact rfl), HWC, HAC⟩
                · by_cases a1 : a = 1
                  · have ga1 : (a == 1) = true := by simp; omega
                    have hb1 : ¬ b = 1 := by omega
                    have gb1 : (b == 1) = false := by simp; omega
                    have HN : Hid (cm2 true a b = false) := by show cm2 true a b = false; unfold cm2; rw [← Hn.out]; simp [*]
                    try clear a1
                    go_wp2_with fail
                    go_meet
                    case rel => exact ⟨_, rfl, (by rw [HN.out]; exact rfl), HWC, HAC⟩
                  · have ga1 : (a == 1) = false := by simp; omega
                    have HN : Hid (cm2 true a b = false) := by show cm2 true a b = false; unfold cm2; rw [← Hn.out]; simp [*]
                    try clear a1
                    go_wp2_with fail
                    go_meet
                    case rel => exact ⟨_, rfl, (by rw [HN.out]; exact rfl), HWC, HAC⟩
            · have HN : Hid (cm2 B a b = true) := by show cm2 B a b = true; unfold cm2; rw [← Hn.out]; simp [*]
              try clear a1
              go_wp2_with fail
              go_meet
              case rel => exact ⟨_, rfl, (by rw [HN.out]; exact rfl), HWC, HAC⟩
          case rest =>
            clear HWC HAC Hn
            obtain ⟨h, rfl, Hh, HWC, HAC⟩ := hcut
            cases h
            · go_wp2_with fail
              go_meet
              case rel => exact ⟨HWC, HAC, by show cmF op [a, b] = false; rw [cmF_two, HC.out, HB.out, ← Hh.out]; rfl⟩
            · have HE : Hid (finV op (refF op [a, b]) = .tuple #[.int .i64 1, .bool false, .bool true]) := by
                show finV op (refF op [a, b]) = _
                unfold refF
                rw [cmF_two, HC.out, HB.out, ← Hh.out, if_pos (show (true && true) = true from rfl)]
                show Value.tuple #[.int .i64 1, .bool (decide (op = srs)), .bool true] = _
                rw [srs_not HC.out]
              go_wp2
              exact bodyPost_ret (v := .tuple #[.int .i64 1, .bool false, .bool true]) (by simp [results, Tryd.results7, go_sem]) rfl ⟨by rw [HE.out], HWC.out⟩
    case rest =>
      clear HW HAW Hb HC HB
      obtain ⟨HW, HAW, Hnc⟩ := hcut
      have HE : Hid (refF op args = rFind op args rtb) := by show refF op args = _; unfold refF; rw [Hnc.out]; rfl
      clear Hnc
      go_wp2_with fail
      refine (rt_any _).mono ?_
      rintro e W2 ⟨rfl, hT⟩
      have HT : Hid (TB wc W2) := hT
      clear hT
      go_wp2_with fail
      go_loopw [13] (fun i U => ∃ (j : Nat), i = .int .i64 (j : Int) ∧ j ≤ 90 ∧ Hid (TB wc U) ∧ Hid (rFind op args rtb = rFind op args (rtb.drop j))) (fun i _ => 90 - (intOf i).toNat)
      case atStart => exact ⟨0, rfl, by omega, HT, rfl⟩
      case round =>
        obtain ⟨j, rfl, hj, KT, HK⟩ := hrel
        clear HT
        have hj0 : (0 : Int) ≤ (j : Int) := by omega
        by_cases hj90 : j < 90
        · have hjI : (j : Int) < 90 := by omega
          have hjw : IntKind.i64.wrap ((j : Int) + 1) = (j : Int) + 1 := by rw [IntKind.wrap_i64]; omega
          obtain ⟨⟨O, A, T⟩, hx⟩ : ∃ x, rtb[j]? = some x := ⟨_, List.getElem?_eq_getElem (show j < rtb.length by rw [rtb_len]; exact hj90)⟩
          obtain ⟨y0, y1, y2, y3⟩ := KT.out.tab j _ hx
          have hh := KT.out.hi
          have hat := rFind_at (op := op) (args := args) hx
          obtain ⟨-, hA4, hA1⟩ := rtb_got hx
          simp only at y0 y1 y2 y3 hat hA4 hA1
          have HIA : Hid (IR wr (.slice (some ⟨wc.heap.size + j, 0, none⟩) A.length A.length) A) := ⟨_, _, rfl, Nat.le_refl _, by unfold maxLen; omega, fun i u hu => ⟨_, _, rfl, by omega, by rw [Nat.zero_add]; exact y3 i u hu⟩⟩
          have hA4I : (A.length : Int) ≤ 4 := by omega
          clear y3 hx
          by_cases hO : O = op
          · subst hO
            have HIB : Hid (IR wr (.slice q args.length cq) args) := HAW.out.below KT.out.low
            have HSm : Hid _ := rsame_any A args _ _ wr HIA.out HIB.out
            obtain ⟨S, hS⟩ : ∃ S, decide (A = args) = S := ⟨_, rfl⟩
            rw [hS] at HSm
            go_wp2_with fail
            refine Calls.mono HSm.out ?_
            rintro e V ⟨rfl, hb⟩
            have KV : Hid (TB wc V) := KT.out.below hb
            have v0 := (hb.cell (p := ⟨wc.heap.size + 90, j * 3, none⟩) hh).trans y0
            have v1 := (hb.cell (p := ⟨wc.heap.size + 90, j * 3 + 1, none⟩) hh).trans y1
            have v2 := (hb.cell (p := ⟨wc.heap.size + 90, j * 3 + 2, none⟩) hh).trans y2
            have hh2 := KV.out.hi
            clear hb HSm HIA HIB y0 y1 y2 hh KT
            cases S
            · have hne : ¬ A = args := of_decide_eq_false hS
              rw [if_neg (fun h => hne h.2)] at hat
              have HK2 : Hid (rFind O args rtb = rFind O args (rtb.drop (j + 1))) := HK.out.trans hat
              clear hat HK hS hne
              go_wp2
              exact ⟨⟨j + 1, by simp, by omega, KV, HK2⟩, by simp [intOf]; omega⟩
            · have heq : A = args := of_decide_eq_true hS
              rw [if_pos ⟨(by trivial), heq⟩] at hat
              have HF : Hid (refF O args = some T) := HE.out.trans (HK.out.trans hat)
              have HBF : Hid (Below w.heap.size w V) := HW.out.trans (KV.out.low.mono HW.out.size)
              have hlit := lit_eq O [103, 101, 110, 101, 114, 97, 116, 101, 95, 115, 101, 114, 105, 101, 115]
              clear hat HK HE hS heq KV
              go_wp2
              exact bodyPost_ret (v := .tuple #[.int .i64 T, .bool (decide (O = srs)), .bool true]) (by simp [results, Tryd.results7, go_sem, srs]; congr) rfl ⟨by rw [HF.out]; rfl, HBF.out⟩
          · rw [if_neg (fun h => hO h.1)] at hat
            have hg : (O.toList == op.toList) = false := by rw [toList_eq]; exact decide_eq_false hO
            have HK2 : Hid (rFind op args rtb = rFind op args (rtb.drop (j + 1))) := HK.out.trans hat
            clear hat HK HIA
            go_wp2
            exact ⟨⟨j + 1, by simp, by omega, KT, HK2⟩, by simp [intOf]; omega⟩
        · obtain rfl : j = 90 := by omega
          have HF : Hid (refF op args = none) := by
            have h1 := HE.out.trans HK.out
            rw [List.drop_of_length_le (by rw [rtb_len]; exact Nat.le_refl _)] at h1
            exact h1
          have HBF : Hid (Below w.heap.size w wr) := HW.out.trans (KT.out.low.mono HW.out.size)
          clear HE HK KT
          go_wp2
          exact bodyPost_ret (v := .tuple #[.int .i64 0, .bool false, .bool false]) (by simp [results, Tryd.results7, go_sem]) rfl ⟨by rw [HF.out]; rfl, HBF.out⟩

end Go.Proofs.YtcmefhnfdcngfaaDoor
