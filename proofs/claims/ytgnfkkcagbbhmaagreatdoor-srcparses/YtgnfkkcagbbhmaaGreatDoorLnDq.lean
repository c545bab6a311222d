/- Contract of the reference's Split of a source. -/
import Derived.Test.YtgnfkkcagbbhmaaGreatDoorLnCq
import Derived.Deep.CutRange
namespace Go.Proofs.YtgnfkkcagbbhmaaGreatDoor.Lin
open Go.RowKit
set_option linter.unusedVariables false

/-- where the reference stands in the text. -/
def RefAt (T : List UInt8) (k fr n : Nat) (A : List Lne) (G : Sum (Int × Int) (List Lne)) : Prop :=
  (k ≤ T.length → lnsF (pieces ((T.take k).drop fr) (T.drop k)) n A = G) ∧ (T.length < k → Sum.inr A = G)
theorem ref_skip {T : List UInt8} {k fr n : Nat} {A : List Lne} {G : Sum (Int × Int) (List Lne)} {c : UInt8} {r : List UInt8} (h : RefAt T k fr n A G) (hc : T.drop k = c :: r) (h10 : c ≠ 10) (hf : fr ≤ k) (hk : k < T.length) : RefAt T (k + 1) fr n A G := by
  refine ⟨fun _ => ?_, fun q => by omega⟩
  rw [← h.1 (by omega), hc, pieces, if_neg h10]
  have e1 : T.drop (k + 1) = r := by
    have := List.drop_eq_getElem_cons hk
    rw [hc] at this
    exact (List.cons.inj this).2.symm
  have e2 : (T.take (k + 1)).drop fr = (T.take k).drop fr ++ [c] := by
    have hc2 : T[k]? = some c := by
      have := List.drop_eq_getElem_cons hk
      rw [hc] at this
      rw [List.getElem?_eq_getElem hk, (List.cons.inj this).1]
    rw [List.take_add_one, hc2, List.drop_append_of_le_length (by rw [List.length_take]; omega)]; rfl
  rw [e1, e2]
theorem ref_cut {T : List UInt8} {k fr n : Nat} {A : List Lne} {G : Sum (Int × Int) (List Lne)} (h : RefAt T k fr n A G) (hk : k ≤ T.length) (hc : k = T.length ∨ ∃ r, T.drop k = 10 :: r) :
    ∃ ts, lnsF ((T.take k).drop fr :: ts) n A = G ∧ ∀ n' A', lnsF ts n' A' = G → RefAt T (k + 1) (k + 1) n' A' G := by
  rcases hc with hc | ⟨r, hc⟩
  · refine ⟨[], ?_, fun n' A' q => ⟨fun q2 => by omega, fun _ => q⟩⟩
    rw [← h.1 hk, List.drop_of_length_le (l := T) (i := k) (by omega)]; rfl
  · have hk2 : k < T.length := by
      apply Nat.lt_of_not_le
      intro q
      rw [List.drop_of_length_le q] at hc
      exact absurd hc (by simp)
    have e1 : T.drop (k + 1) = r := by
      have := List.drop_eq_getElem_cons hk2
      rw [hc] at this
      exact (List.cons.inj this).2.symm
    refine ⟨pieces [] r, ?_, fun n' A' q => ⟨fun _ => ?_, fun q2 => by omega⟩⟩
    · rw [← h.1 hk, hc, pieces, if_pos rfl]
    · rw [e1, List.drop_of_length_le (by rw [List.length_take]; omega)]; exact q
theorem piece_data (s : ByteArray) (fr k : Nat) : (s.extract fr k).data.toList = (s.data.toList.take k).drop fr := by
  rw [ByteArray.data_extract, Array.toList_extract, List.extract_eq_take_drop, List.drop_take]

set_option maxRecDepth 1000000 in
set_option maxHeartbeats 8000000 in
theorem eSplit_any (s : ByteArray) (w : World) :
    Calls Tryz.prog 20 #[.string s] w fun e w' => Below w.heap.size w w' ∧ SplitIs w 65 e w' (lnsS s) := by
  obtain ⟨i0, hi, hz0, hz1, hz2⟩ := info_parts infoLineE
  by_cases hbig : 8192 < s.size
  · have e : lnsS s = .inl (0, 3) := if_pos hbig
    rw [e]
    have hbig' : (8192 : Int) < (s.size : Int) := by omega
    go_enter Tryz.func20, Tryz.ntmps20
    go_wp2_with fail
    go_ret3
    exact ⟨Below.refl _ _, rfl⟩
  · have hbig' : ¬ (8192 : Int) < (s.size : Int) := by omega
    obtain ⟨G, hG⟩ : ∃ G, G = lnsS s := ⟨_, rfl⟩
    rw [← hG]
    have HG : Hid (RefAt s.data.toList 0 0 0 [] G) := by
      refine ⟨fun _ => ?_, fun q => by omega⟩
      rw [hG]; unfold lnsS; rw [if_neg hbig]; rfl
    clear hG
    have HTL : Hid (s.data.toList.length = s.size) := by show _ = _; simp
    go_enter Tryz.func20, Tryz.ntmps20
    go_wp2_with fail
    go_loopw [5, 6, 7, 8] (fun v nn ff i wr => ∃ (k fr n : Nat) (l : List LnV), k ≤ s.size + 1 ∧ fr ≤ k ∧ n ≤ k ∧ i = .int .i64 (k : Int) ∧ ff = .int .i64 (fr : Int) ∧ nn = .int .i64 (n : Int) ∧ l.length ≤ 400 ∧ Hid (OwnL wr w.heap.size 65 v l) ∧ Hid (RefAt s.data.toList k fr n (saidL l) G) ∧ Hid (Below w.heap.size w wr)) (fun _ _ _ i _ => s.size + 1 - (intOf i).toNat)
    case atStart => exact ⟨0, 0, 0, [], Nat.zero_le _, Nat.zero_le _, Nat.zero_le _, rfl, rfl, rfl, Nat.zero_le _, OwnL.nil _ _ _, HG, Below.refl _ _⟩
    case round =>
      clear HG
      obtain ⟨k, fr, n, l, hk, hfr, hn, rfl, rfl, rfl, hl4, HOl, HG, HB⟩ := hrel
      obtain ⟨m, hm⟩ : ∃ m, l.length = m := ⟨_, rfl⟩
      have HQ : Hid (wr.ownsRow w.heap.size 65 2 u5 m (flatL l)) := by have := HOl.out.1; rw [hm] at this; exact this
      by_cases hks : k ≤ s.size
      · have hks' : (k : Int) ≤ (s.size : Int) := by omega
        have hkw : IntKind.i64.wrap ((k : Int) + 1) = (k : Int) + 1 := by rw [IntKind.wrap_i64]; omega
        have hnw : IntKind.i64.wrap ((n : Int) + 1) = (n : Int) + 1 := by rw [IntKind.wrap_i64]; omega
        by_cases hsk : ∃ (c : UInt8) (r : List UInt8), s.data.toList.drop k = c :: r ∧ c ≠ 10
        · obtain ⟨c, r, hc, h10⟩ := hsk
          have hks2 : k < s.size := by
            apply Nat.lt_of_not_le
            intro q
            rw [List.drop_of_length_le (by rw [HTL.out]; exact q)] at hc
            exact absurd hc (by simp)
          obtain ⟨c', hc1, hc2⟩ := drop_at hks2
          rw [hc] at hc1
          have hcc : c' = c := (List.cons.inj hc1).1.symm
          subst hcc
          have hix := ixL s k c' _ hks2 hc2 rfl
          have hks2' : (k : Int) < (s.size : Int) := by omega
          have h10' : ((c'.toNat : Int) == 10) = false := by rw [beq_eq_false_iff_ne]; intro q; exact h10 (UInt8.toNat_inj.1 (by show c'.toNat = 10; omega))
          have h10'' : ((c'.toNat : Int) != 10) = true := by rw [bne_iff_ne]; intro q; exact h10 (UInt8.toNat_inj.1 (by show c'.toNat = 10; omega))
          have HG2 : Hid (RefAt s.data.toList (k + 1) fr n (saidL l) G) := ref_skip HG.out hc h10 hfr (by rw [HTL.out]; exact hks2)
          clear HG HQ hc hc1 hc2 h10
          generalize (c'.toNat : Int) = C at *
          go_wp2_with fail
          go_roundw
          case rel => exact ⟨k + 1, fr, n, l, by omega, by omega, by omega, by go_num, rfl, rfl, hl4, HOl, HG2, HB⟩
          case measure => simp [intOf]; omega
        · obtain ⟨ts, t1, t2⟩ := ref_cut HG.out (by rw [HTL.out]; exact hks) (by
            by_cases q : k = s.size
            · left; rw [HTL.out]; exact q
            · right
              obtain ⟨c, hc1, _⟩ := drop_at (show k < s.size by omega)
              by_cases q2 : c = 10
              · subst q2; exact ⟨_, hc1⟩
              · exact absurd ⟨c, _, hc1, q2⟩ hsk)
          have HT2 : Hid (∀ n' A', lnsF ts n' A' = G → RefAt s.data.toList (k + 1) (k + 1) n' A' G) := t2
          obtain ⟨p, hp⟩ : ∃ p, p = s.extract fr k := ⟨_, rfl⟩
          have hpz : p.size ≤ 8192 := by rw [hp, ByteArray.size_extract]; omega
          have HD : Hid (lnsF (p.data.toList :: ts) n (saidL l) = G) := by
            show _ = _
            rw [hp, piece_data]; exact t1
          have HLS : Hid (∀ W : World, Calls Tryz.prog 52 #[.string (s.extract fr k)] W fun e w' => Below W.heap.size W w' ∧ LineOf W e w' (oneL p.data.toList)) := by
            intro W
            rw [← hp]
            exact eone_any p hpz W
          have HSA : Hid ((saidL l).length = m) := by show _ = _; unfold saidL; rw [List.length_map, hm]
          have c1 : (0 : Int) ≤ (fr : Int) := by omega
          have c2 : (fr : Int) ≤ (k : Int) := by omega
          have hix : ∀ hlt : k < s.size, ∀ w0 : World, (Instr.index 9 (.string s) (.int .i64 (k : Int))).run Tryz.prog w0 = .ok (.int .u8 10) w0 := fun hlt => by
            obtain ⟨c, hc1, hc2⟩ := drop_at hlt
            have q2 : c = 10 := by
              apply Classical.byContradiction
              intro q
              exact hsk ⟨c, _, hc1, q⟩
            subst q2
            exact ixL s k 10 10 hlt hc2 rfl
          clear HG t1 t2 hsk hp
          have hcase : ((k : Int) < (s.size : Int) ∧ k < s.size) ∨ ¬ (k : Int) < (s.size : Int) := by omega
          go_upto_region 9 with fail
          go_cut [29] from 20 to 29 (fun p W => p = .bool false ∧ W = wr)
          case first =>
            clear HLS HD HSA HT2 HQ HOl HB
            rcases hcase with ⟨hlt', hlt⟩ | hlt'
            · have hix2 := hix hlt
              clear hix
              go_wp2_with fail
              go_meet
              case rel => exact ⟨rfl, rfl⟩
            · clear hix
              go_wp2_with fail
              go_meet
              case rel => exact ⟨rfl, rfl⟩
          case rest =>
            obtain ⟨rfl, rfl⟩ := hcut
            clear hix hcase
            go_wp2_with fail
            refine (HLS.out _).mono ?_
            rintro e w2 ⟨hb, hL⟩
            clear HLS
            have hsz1 := HB.out.size
            have HB2 : Hid (Below w.heap.size w w2) := HB.out.trans (hb.mono HB.out.size)
            have HOl2 : Hid (OwnL w2 w.heap.size 65 u5 l) := HOl.out.below hb
            clear HB HOl HQ hb
            have HQ : Hid (w2.ownsRow w.heap.size 65 2 u5 m (flatL l)) := by have := HOl2.out.1; rw [hm] at this; exact this
            cases hone : oneL p.data.toList with
            | none =>
              rw [hone] at hL
              obtain ⟨v, rfl⟩ := hL
              have HE : G = .inl ((n : Int) + 1, 21) := by rw [← HD.out, lnsF_none hone]
              subst HE
              clear HD HSA HQ HT2
              go_wp2_with fail
              go_ret3
              exact ⟨HB2.out, rfl⟩
            | some F =>
              rw [hone] at hL
              obtain ⟨v, rfl, hv0⟩ := hL
              have HV : Hid (w2.ownsRow w.heap.size 9 1 v F.length (cellsS F)) := own_lower hv0 (by omega)
              clear hv0
              obtain ⟨q, hq⟩ : ∃ q, F.length = q := ⟨_, rfl⟩
              have HVn : Hid (w2.ownsRow w.heap.size 9 1 v q (cellsS F)) := by have := HV.out; rw [hq] at this; exact this
              have HE := HD.out
              rw [lnsF_some hone, hq, HSA.out] at HE
              clear HD hone
              have hnm : q ≤ maxLen := by
                rcases HVn.out.2 with ⟨_, h0⟩ | ⟨_, cap, _, _, _, _, h3, h4, _⟩
                · omega
                · omega
              unfold maxLen at hnm
              have hform : ∃ a cap, v = .slice a q cap := by
                rcases HVn.out.2 with ⟨h0, h1⟩ | ⟨g, cap, _, h0, _⟩
                · exact ⟨none, 0, by rw [h0, h1]⟩
                · exact ⟨_, cap, h0⟩
              obtain ⟨a, cap, rfl⟩ := hform
              by_cases hn0 : q = 0
              · rw [if_pos hn0] at HE
                have HE2 : Hid (RefAt s.data.toList (k + 1) (k + 1) (n + 1) (saidL l) G) := HT2.out _ _ HE
                clear HE HSA HQ HV HVn hq HT2
                subst hn0
                go_wp2_with fail
                go_roundw
                case rel => exact ⟨k + 1, k + 1, n + 1, l, by omega, by omega, by omega, by go_num, by go_num, by go_num, hl4, HOl2, HE2, HB2⟩
                case measure => simp [intOf]; omega
              · rw [if_neg hn0] at HE
                have hn0' : (0 : Int) < (q : Int) := by omega
                by_cases h16 : 16 < q
                · rw [if_pos (.inl h16)] at HE
                  subst HE
                  have h16' : (16 : Int) < (q : Int) := by omega
                  clear HSA HQ HV HVn hq hn0 HT2
                  go_wp2_with fail
                  go_ret3
                  exact ⟨HB2.out, rfl⟩
                · have h16' : ¬ (16 : Int) < (q : Int) := by omega
                  have hrow : ∃ a5 c5, u5 = .slice a5 m c5 := by
                    rcases HQ.out.2 with ⟨h0, h1⟩ | ⟨g, cap5, _, h0, _⟩
                    · exact ⟨none, 0, by rw [h0, h1]⟩
                    · exact ⟨_, cap5, h0⟩
                  by_cases h400 : m = 400
                  · rw [if_pos (.inr h400)] at HE
                    subst HE
                    obtain ⟨a5, c5, rfl⟩ := hrow
                    clear HSA HQ HV HVn hq hn0 HOl2 HT2
                    subst h400
                    go_wp2_with fail
                    go_ret3
                    exact ⟨HB2.out, rfl⟩
                  · have h400' : ¬ (400 : Int) ≤ (m : Int) := by omega
                    rw [if_neg (by omega)] at HE
                    have HE2 : Hid (RefAt s.data.toList (k + 1) (k + 1) (n + 1) (saidL (l ++ [((n : Int) + 1, .slice a q cap, F)])) G) := HT2.out _ _ (by rw [← HE]; unfold saidL; simp)
                    clear HE HSA hrow hn0 HT2
                    have hl5 : m + 1 ≤ 400 := by omega
                    rcases HQ.out.2 with ⟨e5, -⟩ | ⟨g5, cap5, cur5, e5, _, _, _, _, _, _⟩
                    all_goals
                      subst e5
                      go_wp2_with (first
                      | (at_builtin; refine wpList_append_own _ rfl _ _ 57 rfl w.heap.size 65 i0 (.agg #[.int .i64 0, .slice none 0 0]) 2 32 Tryz.underlying57 hi hz0 hz1 hz2 rfl (by decide) _ m (flatL l) rfl (HQ.out.alloc _) ⟨w2.heap.size, 0, none⟩ 1 1 [.int .i64 ((n : Int) + 1), .slice a q cap] rfl rfl (two_newB _ _ _ _) (by intro x hx; simp at hx; rcases hx with rfl | rfl <;> rfl) (by unfold maxLen; omega) (by omega) (by have := HB2.out.size; simp; omega) ?_; intro v' w3 hown' hgrow3 hnil3
                         have HJ : Hid (OwnL w3 w.heap.size 65 v' (l ++ [((n : Int) + 1, .slice a q cap, F)]) ∧ Below w.heap.size w w3) := ⟨HOl2.out.more HV.out (by decide) _ hgrow3 (by rw [hm]; exact hown'), Below.grown (HB2.out.alloc HB2.out.size _) hgrow3 (by have := HB2.out.size; simp; omega) (fun k hk => (HOl2.out.1.lt _ hk).1)⟩
                         clear hown' hgrow3 hnil3))
                      go_roundw
                      case rel => exact ⟨k + 1, k + 1, n + 1, l ++ [((n : Int) + 1, Value.slice a q cap, F)], by omega, by omega, by omega, by go_num, by go_num, by go_num, by rw [List.length_append]; show _ + 1 ≤ _; omega, HJ.out.1, HE2, HJ.out.2⟩
                      case measure => simp [intOf]; omega
      · have hks' : ¬ (k : Int) ≤ (s.size : Int) := by omega
        have HE : G = .inr (saidL l) := (HG.out.2 (by rw [HTL.out]; omega)).symm
        subst HE
        have HO2 := HOl.out
        have hB := HB.out
        clear HG HQ HB HOl
        go_wp2_with fail
        go_ret3
        exact ⟨hB, _, l, rfl, HO2, rfl⟩

end Go.Proofs.YtgnfkkcagbbhmaaGreatDoor.Lin
