/- Contract: taken of src's parser: whether a zone or a link has a name. -/
import Derived.Test.YtgnfkkcagbbhmaaGreatDoorPmCq
namespace Go.Proofs.YtgnfkkcagbbhmaaGreatDoor
open Go.RowKit
set_option linter.unusedVariables false

theorem own_rowP {W : World} {base : Nat} {e : TypeId} {size : Nat} {v : Value} {n : Nat} {xs : List Value} (h : W.ownsRow base e size v n xs) :
    ∃ a cap, v = .slice a n cap ∧ n ≤ cap ∧ cap ≤ maxLen ∧ (0 < n → ∃ b, a = some ⟨b, 0, none⟩ ∧ base ≤ b) := by
  rcases h.2 with ⟨rfl, h0⟩ | ⟨g, cap, cur, rfl, h1, h2, h3, h4, h5⟩
  · exact ⟨none, 0, by rw [h0], by omega, by unfold maxLen; omega, fun q => by omega⟩
  · exact ⟨_, cap, rfl, h3, h4, fun _ => ⟨g, rfl, h1⟩⟩
theorem zoneXs_at : ∀ (l : List ZnT') (vs : List Value) (i : Nat) (z : ZnT'), vs.length = l.length → l[i]? = some z → ∃ v, (zoneXs l vs)[i * 2]? = some (.string z.1) ∧ (zoneXs l vs)[i * 2 + 1]? = some v ∧ vs[i]? = some v
  | [], _, i, z, _, h => by simp at h
  | y :: l, [], i, z, hl, h => by simp at hl
  | y :: l, x :: vs, 0, z, hl, h => by simp at h; subst h; exact ⟨x, rfl, rfl, rfl⟩
  | y :: l, x :: vs, i + 1, z, hl, h => by
    obtain ⟨v, h1, h2, h3⟩ := zoneXs_at l vs i z (by simpa using hl) (by simpa using h)
    refine ⟨v, ?_, ?_, by simpa using h3⟩
    · rw [show (i + 1) * 2 = i * 2 + 1 + 1 by omega]; simpa [zoneXs] using h1
    · rw [show (i + 1) * 2 + 1 = i * 2 + 1 + 1 + 1 by omega]; simpa [zoneXs] using h2
theorem eraRows_at : ∀ (l : List ZnT') (vs : List Value) (i : Nat) (z : ZnT') (v : Value), l[i]? = some z → vs[i]? = some v → (eraRows l vs)[i]? = some (eraRow z v)
  | [], vs, i, z, v, h, _ => by simp at h
  | y :: l, [], i, z, v, _, h => by simp at h
  | y :: l, x :: vs, 0, z, v, h, h2 => by simp at h h2; subst h h2; rfl
  | y :: l, x :: vs, i + 1, z, v, h, h2 => by
    have := eraRows_at l vs i z v (by simpa using h) (by simpa using h2)
    simpa [eraRows] using this
theorem PM.eraAt {w : World} {g m B : Nat} {S : PSt} {vr vl ve vz : Value} {vs : List Value} {V : World} (h : PM w g m B S vr vl ve vz vs V) {i : Nat} {z : ZnT'} {v : Value} (hz : S.zones[i]? = some z) (hv : vs[i]? = some v) : V.ownsRow B 94 11 v z.2.length (eraXs z.2) :=
  h.fam.get (4 + i) (r := eraRow z v) (by unfold rowsP; rw [List.getElem?_append_right (by simp)]; simp only [List.length_cons, List.length_nil]; rw [show 4 + i - (0 + 1 + 1 + 1 + 1) = i by omega]; exact eraRows_at _ _ _ _ _ hz hv)
theorem linkXs_at : ∀ (l : List (ByteArray × ByteArray)) (i : Nat) (z : ByteArray × ByteArray), l[i]? = some z → (linkXs l)[i * 2]? = some (.string z.1) ∧ (linkXs l)[i * 2 + 1]? = some (.string z.2)
  | [], i, z, h => by simp at h
  | y :: l, 0, z, h => by simp at h; subst h; exact ⟨rfl, rfl⟩
  | y :: l, i + 1, z, h => by
    obtain ⟨h1, h2⟩ := linkXs_at l i z (by simpa using h)
    constructor
    · rw [show (i + 1) * 2 = i * 2 + 1 + 1 by omega]; simpa [linkXs] using h1
    · rw [show (i + 1) * 2 + 1 = i * 2 + 1 + 1 + 1 by omega]; simpa [linkXs] using h2
theorem any_at {α : Type} {l : List α} {p : α → Bool} {j : Nat} {x : α} (hx : l[j]? = some x) : (l.drop j).any p = (p x || (l.drop (j + 1)).any p) := by
  have hj := (List.getElem?_eq_some_iff.1 hx).1
  rw [List.drop_eq_getElem_cons hj, (List.getElem?_eq_some_iff.1 hx).2, List.any_cons]

set_option maxRecDepth 100000 in
set_option maxHeartbeats 4000000 in
theorem ptaken_any (w : World) (g m B : Nat) (S : PSt) (vr vl ve vz : Value) (vs : List Value) (V : World) (h : PM w g m B S vr vl ve vz vs V) (s : ByteArray) (hs : s.size ≤ maxLen) (hZ : Hid (∀ z ∈ S.zones, z.1.size ≤ maxLen)) (hL : Hid (∀ l ∈ S.links, l.2.size ≤ maxLen)) :
    Calls Tryz.prog 82 #[.pointer (some ⟨g, 0, none⟩), .string s] V fun e W' => e = .returned (.bool (takenB S s)) ∧ Below V.heap.size V W' := by
  obtain ⟨az, cz, hvz, hz1, hz2, hz3⟩ := own_rowP (h.fam.get 3 rfl)
  obtain ⟨al, cl, hvl, hl1, hl2, hl3⟩ := own_rowP (h.fam.get 1 rfl)
  simp only at hvz hvl hz1 hl1 hz3 hl3
  subst hvz hvl
  obtain ⟨TT, hTT⟩ : ∃ TT, takenB S s = TT := ⟨_, rfl⟩
  rw [hTT]
  have HT : Hid (takenB S s = TT) := hTT
  clear hTT
  have K0 : Hid (PM w g m B S vr (.slice al S.links.length cl) ve (.slice az S.zones.length cz) vs V ∧ Below V.heap.size V V) := ⟨h, Below.refl _ _⟩
  clear h
  have c1 := K0.out.1.box.c 1 rfl
  have hnz : (S.zones.length : Int) ≤ 9223372036854775807 := by unfold maxLen at hz2; omega
  have hnl : (S.links.length : Int) ≤ 9223372036854775807 := by unfold maxLen at hl2; omega
  unfold maxLen at hz2 hl2
  go_enter Tryz.func82, Tryz.ntmps82
  go_wp2_with fail
  clear c1
  go_loopw [15] (fun iv W => ∃ j : Nat, iv = .int .i64 (j : Int) ∧ j ≤ S.zones.length ∧ Hid (PM w g m B S vr (.slice al S.links.length cl) ve (.slice az S.zones.length cz) vs W ∧ Below V.heap.size V W) ∧ Hid (((S.zones.drop j).any (fun z => Wrd.sameB z.1 s) || S.links.any (fun l => Wrd.sameB l.2 s)) = TT)) (fun iv _ => S.zones.length - (intOf iv).toNat)
  case atStart => exact ⟨0, rfl, Nat.zero_le _, K0, HT⟩
  case round =>
    obtain ⟨j, rfl, hj, KV, HE⟩ := hrel
    clear K0
    have hj0 : (0 : Int) ≤ (j : Int) := by omega
    by_cases hjn : j < S.zones.length
    · have hjI : (j : Int) < (S.zones.length : Int) := by omega
      have hjw : IntKind.i64.wrap ((j : Int) + 1) = (j : Int) + 1 := by rw [IntKind.wrap_i64]; omega
      obtain ⟨b, hb, hbB⟩ := hz3 (by omega)
      subst hb
      obtain ⟨z, hz⟩ : ∃ z, S.zones[j]? = some z := ⟨_, List.getElem?_eq_getElem hjn⟩
      have hzl := hZ.out z (List.mem_of_getElem? hz)
      have HA := any_at (p := fun z => Wrd.sameB z.1 s) hz
      obtain ⟨v, y0, y1, y2⟩ := zoneXs_at _ _ j z KV.out.1.len hz
      obtain ⟨q1, q2, q3, hv⟩ := own_sliceP (KV.out.1.eraAt hz y2)
      subst hv
      have f0 := (KV.out.1.fam.cell 3 rfl rfl y0)
      have f1 := (KV.out.1.fam.cell 3 rfl rfl y1)
      have hbw := World.block_lt_of_cell? _ _ f0
      have HE2 : Hid ((Wrd.sameB z.1 s || (S.zones.drop (j + 1)).any (fun z => Wrd.sameB z.1 s) || S.links.any (fun l => Wrd.sameB l.2 s)) = TT) := by have := HE.out; rw [HA] at this; exact this
      clear HA HE y0 y1 y2 hz
      go_wp2_with fail
      refine (Wrd.same_any z.1 s hzl hs _).mono ?_
      rintro e W2 ⟨rfl, hb2⟩
      have KW : Hid (PM w g m B S vr (.slice al S.links.length cl) ve (.slice (some ⟨b, 0, none⟩) S.zones.length cz) vs W2 ∧ Below V.heap.size V W2) := by
        have q : Below wr.heap.size wr W2 := NBs hb2
        exact ⟨KV.out.1.below q, KV.out.2.trans (q.mono KV.out.2.size)⟩
      clear hb2 KV f0 f1 hbw
      by_cases hq : Wrd.sameB z.1 s = true
      · rw [hq] at HE2 ⊢
        have hTT : TT = true := by rw [← HE2.out]; rfl
        go_wp2_with fail
        go_ret
        exact ⟨by rw [hTT]; rfl, KW.out.2⟩
      · rw [show Wrd.sameB z.1 s = false by simpa using hq] at HE2 ⊢
        go_wp2_with fail
        exact ⟨⟨j + 1, rfl, hjn, KW, HE2⟩, by simp only [intOf]; omega⟩
    · have hjI : ¬ (j : Int) < (S.zones.length : Int) := by omega
      have hjn' : j = S.zones.length := by omega
      have HE2 : Hid (S.links.any (fun l => Wrd.sameB l.2 s) = TT) := by have := HE.out; rw [hjn', List.drop_length] at this; exact this
      clear HE hjn'
      have c2 := KV.out.1.box.c 2 rfl
      go_wp2_with fail
      clear c2
      go_loopw [30] (fun iv W => ∃ i : Nat, iv = .int .i64 (i : Int) ∧ i ≤ S.links.length ∧ Hid (PM w g m B S vr (.slice al S.links.length cl) ve (.slice az S.zones.length cz) vs W ∧ Below V.heap.size V W) ∧ Hid ((S.links.drop i).any (fun l => Wrd.sameB l.2 s) = TT)) (fun iv _ => S.links.length - (intOf iv).toNat)
      case atStart => exact ⟨0, rfl, Nat.zero_le _, KV, HE2⟩
      case round =>
        obtain ⟨i, rfl, hi, KL, HL⟩ := hrel
        clear KV HE2
        have hi0 : (0 : Int) ≤ (i : Int) := by omega
        by_cases hin : i < S.links.length
        · have hiI : (i : Int) < (S.links.length : Int) := by omega
          have hiw : IntKind.i64.wrap ((i : Int) + 1) = (i : Int) + 1 := by rw [IntKind.wrap_i64]; omega
          obtain ⟨b, hb, hbB⟩ := hl3 (by omega)
          subst hb
          obtain ⟨z, hz⟩ : ∃ z, S.links[i]? = some z := ⟨_, List.getElem?_eq_getElem hin⟩
          have hzl := hL.out z (List.mem_of_getElem? hz)
          have HA := any_at (p := fun l => Wrd.sameB l.2 s) hz
          obtain ⟨y0, y1⟩ := linkXs_at _ i z hz
          have f0 := (KL.out.1.fam.cell 1 rfl rfl y0)
          have f1 := (KL.out.1.fam.cell 1 rfl rfl y1)
          have hbw := World.block_lt_of_cell? _ _ f0
          have HE2 : Hid ((Wrd.sameB z.2 s || (S.links.drop (i + 1)).any (fun l => Wrd.sameB l.2 s)) = TT) := by have := HL.out; rw [HA] at this; exact this
          clear HA HL y0 y1 hz
          go_wp2_with fail
          refine (Wrd.same_any z.2 s hzl hs _).mono ?_
          rintro e W2 ⟨rfl, hb2⟩
          have KW : Hid (PM w g m B S vr (.slice (some ⟨b, 0, none⟩) S.links.length cl) ve (.slice az S.zones.length cz) vs W2 ∧ Below V.heap.size V W2) := by
            have q : Below wr.heap.size wr W2 := NBs hb2
            exact ⟨KL.out.1.below q, KL.out.2.trans (q.mono KL.out.2.size)⟩
          clear hb2 KL f0 f1 hbw
          by_cases hq : Wrd.sameB z.2 s = true
          · rw [hq] at HE2 ⊢
            have hTT : TT = true := by rw [← HE2.out]; rfl
            go_wp2_with fail
            go_ret
            exact ⟨by rw [hTT]; rfl, KW.out.2⟩
          · rw [show Wrd.sameB z.2 s = false by simpa using hq] at HE2 ⊢
            go_wp2_with fail
            exact ⟨⟨i + 1, rfl, hin, KW, HE2⟩, by simp only [intOf]; omega⟩
        · have hiI : ¬ (i : Int) < (S.links.length : Int) := by omega
          have hTT : TT = false := by rw [← HL.out, List.drop_eq_nil_of_le (by omega)]; rfl
          go_wp2_with fail
          go_ret
          exact ⟨by first | rfl | (rw [hTT]; rfl), KL.out.2⟩

end Go.Proofs.YtgnfkkcagbbhmaaGreatDoor
