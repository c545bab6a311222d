/- Contract: the reference's taken: whether a zone or a link has a name. -/
import Derived.Test.YtgnfkkcagbbhmaaGreatDoorQpAq
import Derived.Test.YtgnfkkcagbbhmaaGreatDoorQpFq
namespace Go.Proofs.YtgnfkkcagbbhmaaGreatDoor
open Go.RowKit
set_option linter.unusedVariables false

set_option maxRecDepth 100000 in
set_option maxHeartbeats 4000000 in
theorem qtaken_any (w : World) (g B : Nat) (S : PSt) (vr vl ve vz : Value) (vs : List Value) (V : World) (h : PN w g B S vr vl ve vz vs V) (s : ByteArray) (hs : Few s) (hZ : Hid (∀ z ∈ S.zones, Few z.1)) (hL : Hid (∀ l ∈ S.links, Few l.2)) :
    Calls Tryz.prog 92 #[.pointer (some ⟨g, 0, none⟩), .string s] V fun e W' => e = .returned (.bool (takenB S s)) ∧ Below V.heap.size V W' := by
  obtain ⟨az, cz, hvz, hz1, hz2, hz3⟩ := own_rowP (h.fam.get 3 rfl)
  obtain ⟨al, cl, hvl, hl1, hl2, hl3⟩ := own_rowP (h.fam.get 2 rfl)
  simp only at hvz hvl hz1 hl1 hz3 hl3
  subst hvz hvl
  obtain ⟨TT, hTT⟩ : ∃ TT, takenB S s = TT := ⟨_, rfl⟩
  rw [hTT]
  have HT : Hid (takenB S s = TT) := hTT
  clear hTT
  have K0 : Hid (PN w g B S vr (.slice al S.links.length cl) ve (.slice az S.zones.length cz) vs V ∧ Below V.heap.size V V) := ⟨h, Below.refl _ _⟩
  clear h
  have c1 := K0.out.1.box.c 1 rfl
  have hnz : (S.zones.length : Int) ≤ 9223372036854775807 := by unfold maxLen at hz2; omega
  have hnl : (S.links.length : Int) ≤ 9223372036854775807 := by unfold maxLen at hl2; omega
  unfold maxLen at hz2 hl2
  go_enter Tryz.func92, Tryz.ntmps92
  go_wp2_with fail
  clear c1
  go_loopw [5] (fun iv W => ∃ j : Nat, iv = .int .i64 (j : Int) ∧ j ≤ S.zones.length ∧ Hid (PN w g B S vr (.slice al S.links.length cl) ve (.slice az S.zones.length cz) vs W ∧ Below V.heap.size V W) ∧ Hid (((S.zones.drop j).any (fun z => Wrd.sameB z.1 s) || S.links.any (fun l => Wrd.sameB l.2 s)) = TT)) (fun iv _ => S.zones.length - (intOf iv).toNat)
  case atStart => exact ⟨0, rfl, Nat.zero_le _, K0, HT⟩
  case round =>
    obtain ⟨j, rfl, hj, KV, HE⟩ := hrel
    clear K0
    have c1 := KV.out.1.box.c 1 rfl
    have hj0 : (0 : Int) ≤ (j : Int) := by omega
    by_cases hjn : j < S.zones.length
    · have hjI : (j : Int) < (S.zones.length : Int) := by omega
      have hjw : IntKind.i64.wrap ((j : Int) + 1) = (j : Int) + 1 := by rw [IntKind.wrap_i64]; omega
      obtain ⟨b, hb, hbB⟩ := hz3 (by omega)
      subst hb
      obtain ⟨z, hz⟩ : ∃ z, S.zones[j]? = some z := ⟨_, List.getElem?_eq_getElem hjn⟩
      have hzl := hZ.out z (List.mem_of_getElem? hz)
      have HA := any_at (p := fun z => Wrd.sameB z.1 s) hz
      obtain ⟨v, y0, y1, y2⟩ := zoneXs_at _ _ j z KV.out.1.len hz
      have f0 := (KV.out.1.fam.cell 3 rfl rfl y0)
      have hbw := World.block_lt_of_cell? _ _ f0
      have HE2 : Hid ((Wrd.sameB z.1 s || (S.zones.drop (j + 1)).any (fun z => Wrd.sameB z.1 s) || S.links.any (fun l => Wrd.sameB l.2 s)) = TT) := by have := HE.out; rw [HA] at this; exact this
      clear HA HE y0 y1 y2 hz
      go_wp2_with fail
      refine (Wrd.rsame_any z.1 s hzl.big hs.big _).mono ?_
      rintro e W2 ⟨rfl, hb2⟩
      have KW : Hid (PN w g B S vr (.slice al S.links.length cl) ve (.slice (some ⟨b, 0, none⟩) S.zones.length cz) vs W2 ∧ Below V.heap.size V W2) := by
        have q : Below wr.heap.size wr W2 := hb2
        exact ⟨KV.out.1.below q, KV.out.2.trans (q.mono KV.out.2.size)⟩
      clear hb2 KV f0 c1 hbw
      by_cases hq : Wrd.sameB z.1 s = true
      · rw [hq] at HE2 ⊢
        have hTT : TT = true := by rw [← HE2.out]; rfl
        go_wp2_with fail
        go_ret
        exact ⟨by rw [hTT]; rfl, KW.out.2⟩
      · rw [show Wrd.sameB z.1 s = false by simpa using hq] at HE2 ⊢
        go_wp2_with fail
        exact ⟨⟨j + 1, rfl, hjn, KW, HE2⟩, by simp only [intOf]; omega⟩
    · have hjI : ¬ (j : Int) < (S.zones.length : Int) := by omega
      have hjn' : j = S.zones.length := by omega
      have HE2 : Hid (S.links.any (fun l => Wrd.sameB l.2 s) = TT) := by have := HE.out; rw [hjn', List.drop_length] at this; exact this
      clear HE hjn'
      have c2 := KV.out.1.box.c 2 rfl
      go_wp2_with fail
      clear c2 c1
      go_loopw [6] (fun iv W => ∃ i : Nat, iv = .int .i64 (i : Int) ∧ i ≤ S.links.length ∧ Hid (PN w g B S vr (.slice al S.links.length cl) ve (.slice az S.zones.length cz) vs W ∧ Below V.heap.size V W) ∧ Hid ((S.links.drop i).any (fun l => Wrd.sameB l.2 s) = TT)) (fun iv _ => S.links.length - (intOf iv).toNat)
      case atStart => exact ⟨0, rfl, Nat.zero_le _, KV, HE2⟩
      case round =>
        obtain ⟨i, rfl, hi, KL, HL⟩ := hrel
        clear KV HE2
        have c2 := KL.out.1.box.c 2 rfl
        have hi0 : (0 : Int) ≤ (i : Int) := by omega
        by_cases hin : i < S.links.length
        · have hiI : (i : Int) < (S.links.length : Int) := by omega
          have hiw : IntKind.i64.wrap ((i : Int) + 1) = (i : Int) + 1 := by rw [IntKind.wrap_i64]; omega
          obtain ⟨b, hb, hbB⟩ := hl3 (by omega)
          subst hb
          obtain ⟨z, hz⟩ : ∃ z, S.links[i]? = some z := ⟨_, List.getElem?_eq_getElem hin⟩
          have hzl := hL.out z (List.mem_of_getElem? hz)
          have HA := any_at (p := fun l => Wrd.sameB l.2 s) hz
          obtain ⟨y0, y1⟩ := linkXs_at _ i z hz
          have f1 := (KL.out.1.fam.cell 2 rfl rfl y1)
          have hbw := World.block_lt_of_cell? _ _ f1
          have HE2 : Hid ((Wrd.sameB z.2 s || (S.links.drop (i + 1)).any (fun l => Wrd.sameB l.2 s)) = TT) := by have := HL.out; rw [HA] at this; exact this
          clear HA HL y0 y1 hz
          go_wp2_with fail
          refine (Wrd.rsame_any z.2 s hzl.big hs.big _).mono ?_
          rintro e W2 ⟨rfl, hb2⟩
          have KW : Hid (PN w g B S vr (.slice (some ⟨b, 0, none⟩) S.links.length cl) ve (.slice az S.zones.length cz) vs W2 ∧ Below V.heap.size V W2) := by
            have q : Below wr.heap.size wr W2 := hb2
            exact ⟨KL.out.1.below q, KL.out.2.trans (q.mono KL.out.2.size)⟩
          clear hb2 KL f1 c2 hbw
          by_cases hq : Wrd.sameB z.2 s = true
          · rw [hq] at HE2 ⊢
            have hTT : TT = true := by rw [← HE2.out]; rfl
            go_wp2_with fail
            go_ret
            exact ⟨by rw [hTT]; rfl, KW.out.2⟩
          · rw [show Wrd.sameB z.2 s = false by simpa using hq] at HE2 ⊢
            go_wp2_with fail
            exact ⟨⟨i + 1, rfl, hin, KW, HE2⟩, by simp only [intOf]; omega⟩
        · have hiI : ¬ (i : Int) < (S.links.length : Int) := by omega
          have hTT : TT = false := by rw [← HL.out, List.drop_eq_nil_of_le (by omega)]; rfl
          go_wp2_with fail
          go_ret
          exact ⟨by first | rfl | (rw [hTT]; rfl), KL.out.2⟩

end Go.Proofs.YtgnfkkcagbbhmaaGreatDoor
