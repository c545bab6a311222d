/- Contract: law08's known. -/
import Derived.Test.YtgnfkkcagbbhmaaGreatDoorPmVq
namespace Go.Proofs.YtgnfkkcagbbhmaaGreatDoor
open Go.RowKit
set_option linter.unusedVariables false

theorem known_is : ∃ (S : PSt) (oa ob oc : Int) (z : ZnT'), parseP knownT = .inr S ∧ S.rules = [⟨⟨#[69]⟩, 1981, 1073741824, 3, oa, ob, oc, 3600, 117, 3600, ⟨#[83]⟩⟩] ∧ S.zones = [z] ∧ z.2.length = 1 := by
  have hk := known_ok
  cases hP : parseP knownT with
  | inl a => rw [hP] at hk; cases hk
  | inr S =>
    rw [hP] at hk
    unfold knownOk at hk
    dsimp only at hk
    split at hk
    · rename_i r z hr hz
      simp only [Bool.and_eq_true, beq_iff_eq] at hk
      obtain ⟨⟨⟨⟨⟨⟨⟨⟨h1, h2⟩, h3⟩, h4⟩, h5⟩, h6⟩, h7⟩, h8⟩, h9⟩ := hk
      obtain ⟨nm, fr, tt, mo, oa, ob, oc, ta, tz, sv, lt⟩ := r
      simp only at h1 h2 h3 h4 h5 h6 h7 h8
      have h1 := (bytes_beqS _ _).1 h1
      have h8 := (bytes_beqS _ _).1 h8
      subst h1 h2 h3 h4 h5 h6 h7 h8
      exact ⟨S, oa, ob, oc, z, rfl, hr, hz, h9⟩
    · exact absurd hk (by decide)

set_option maxRecDepth 100000 in
set_option maxHeartbeats 4000000 in
theorem known08_any (w : World) (hM : Lin.Mx w) (hT : Clk.Tab w) : Calls Tryz.prog 10 #[] w fun e w' => e = .returned (.bool true) ∧ Below w.heap.size w w' := by
  obtain ⟨S, oa, ob, oc, z, hP, hr, hz, hz1⟩ := known_is
  have HM : Hid (Lin.Mx w) := hM
  have HT : Hid (Clk.Tab w) := hT
  clear hM hT
  have e1 : ((⟨#[69]⟩ : ByteArray).toList == [69]) = true := by decide +kernel
  have e2 : ((⟨#[83]⟩ : ByteArray).toList == [83]) = true := by decide +kernel
  have e3 : ((⟨#[67, 69, 83, 84]⟩ : ByteArray).toList == [67, 69, 83, 84]) = true := by decide +kernel
  have e4 : ((⟨#[45, 48, 51, 51, 48]⟩ : ByteArray).toList == [45, 48, 51, 51, 48]) = true := by decide +kernel
  have e5 : ((⟨#[66, 83, 84]⟩ : ByteArray).toList == [66, 83, 84]) = true := by decide +kernel
  go_enter Tryz.func10, Tryz.ntmps10
  go_wp2_with fail
  refine (parse_any knownT w HM.out (by decide +kernel)).mono ?_
  rintro e w1 ⟨hb, hI⟩
  rw [hP] at hI
  obtain ⟨vr, vl, ve, vz, vs, B, rfl, hB, hF, hlen, hO⟩ := hI
  have HB : Hid (Below w.heap.size w w1) := hb
  obtain ⟨a1, c1, h1, h2, h3, h4⟩ := own_rowP (hF.get 0 rfl)
  obtain ⟨a3, c3, h5, h6, h7, h8⟩ := own_rowP (hF.get 3 rfl)
  obtain ⟨a2, c2, h9, -, -, -⟩ := own_rowP (hF.get 1 rfl)
  simp only at h1 h2 h4 h5 h6 h8 h9
  subst h1 h5 h9
  rw [hr] at h2 h4
  rw [hz] at h6 h8
  obtain ⟨b1, hb1, -⟩ := h4 (by simp)
  obtain ⟨b3, hb3, -⟩ := h8 (by simp)
  subst hb1 hb3
  have hz0 : S.zones[0]? = some z := by rw [hz]; rfl
  obtain ⟨v, g0, g1, g2⟩ := zoneXs_at _ _ 0 z hlen hz0
  obtain ⟨a4, c4, h10, -, -, -⟩ := own_rowP (famEra hF hz0 g2)
  subst h10
  have hrl : S.rules.length = 1 := by rw [hr]; rfl
  have hzl : S.zones.length = 1 := by rw [hz]; rfl
  have k1 := ((hF.get 3 rfl).cellAt 1 (by show _ < S.zones.length * 2; rw [hzl]; decide)).trans g1
  have hr0 : S.rules[0]? = some ⟨⟨#[69]⟩, 1981, 1073741824, 3, oa, ob, oc, 3600, 117, 3600, ⟨#[83]⟩⟩ := by rw [hr]; rfl
  have r0 := ((hF.get 0 rfl).cellAt 0 (by show _ < S.rules.length * 11; rw [hrl]; decide)).trans (ruleXs_at _ 0 0 _ _ hr0 rfl)
  have r1 := ((hF.get 0 rfl).cellAt 1 (by show _ < S.rules.length * 11; rw [hrl]; decide)).trans (ruleXs_at _ 0 1 _ _ hr0 rfl)
  have r2 := ((hF.get 0 rfl).cellAt 2 (by show _ < S.rules.length * 11; rw [hrl]; decide)).trans (ruleXs_at _ 0 2 _ _ hr0 rfl)
  have r3 := ((hF.get 0 rfl).cellAt 3 (by show _ < S.rules.length * 11; rw [hrl]; decide)).trans (ruleXs_at _ 0 3 _ _ hr0 rfl)
  have r4 := ((hF.get 0 rfl).cellAt 4 (by show _ < S.rules.length * 11; rw [hrl]; decide)).trans (ruleXs_at _ 0 4 _ _ hr0 rfl)
  have r5 := ((hF.get 0 rfl).cellAt 5 (by show _ < S.rules.length * 11; rw [hrl]; decide)).trans (ruleXs_at _ 0 5 _ _ hr0 rfl)
  have r6 := ((hF.get 0 rfl).cellAt 6 (by show _ < S.rules.length * 11; rw [hrl]; decide)).trans (ruleXs_at _ 0 6 _ _ hr0 rfl)
  have r7 := ((hF.get 0 rfl).cellAt 7 (by show _ < S.rules.length * 11; rw [hrl]; decide)).trans (ruleXs_at _ 0 7 _ _ hr0 rfl)
  have r8 := ((hF.get 0 rfl).cellAt 8 (by show _ < S.rules.length * 11; rw [hrl]; decide)).trans (ruleXs_at _ 0 8 _ _ hr0 rfl)
  have r9 := ((hF.get 0 rfl).cellAt 9 (by show _ < S.rules.length * 11; rw [hrl]; decide)).trans (ruleXs_at _ 0 9 _ _ hr0 rfl)
  have r10 := ((hF.get 0 rfl).cellAt 10 (by show _ < S.rules.length * 11; rw [hrl]; decide)).trans (ruleXs_at _ 0 10 _ _ hr0 rfl)
  have kw := World.block_lt_of_cell? _ _ r0
  have kz := World.block_lt_of_cell? _ _ k1
  clear hF hO hP hlen hb g0 g1 g2 hz0 hr0 hr hz h2 h3 h4 h6 h7 h8
  rw [hrl, hzl]
  rw [hz1] at k1
  clear hrl hzl hz1
  go_wp2_with fail
  have q1 : Below w1.heap.size w1 ((w1.alloc (.cells #[.slice (some ⟨b1, 0, none⟩) 1 c1, .slice (some ⟨b3, 0, none⟩) 1 c3, .slice a2 S.links.length c2] 26)).alloc (.cells #[.string ⟨#[69]⟩, .int .i64 1981, .int .i64 1073741824, .int .i64 3, .int .i64 oa, .int .i64 ob, .int .i64 oc, .int .i64 3600, .int .u8 117, .int .i64 3600, .string ⟨#[83]⟩] 85)) := ((Below.refl _ _).alloc (Nat.le_refl _) _).alloc (by simp) _
  have B2 : Hid (Below w.heap.size w _) := HB.out.trans (q1.mono HB.out.size)
  clear q1 r0 r1 r2 r3 r4 r5 r6 r7 r8 r9 r10 kw k1 kz
  refine (fmt_a _ (HM.out.below B2.out)).mono ?_
  rintro e w2 ⟨rfl, hb2⟩
  have B3 : Hid (Below w.heap.size w w2) := B2.out.trans (hb2.mono B2.out.size)
  clear hb2 B2
  go_wp2_with fail
  refine (fmt_b _ (HM.out.below B3.out) (HT.out.below B3.out)).mono ?_
  rintro e w3 ⟨rfl, hb3⟩
  have B4 : Hid (Below w.heap.size w w3) := B3.out.trans (hb3.mono B3.out.size)
  clear hb3 B3
  go_wp2_with fail
  refine (fmt_c _ (HM.out.below B4.out)).mono ?_
  rintro e w4 ⟨rfl, hb4⟩
  have B5 : Hid (Below w.heap.size w w4) := B4.out.trans (hb4.mono B4.out.size)
  clear hb4 B4
  go_wp2_with fail
  go_ret
  exact ⟨rfl, B5.out⟩

end Go.Proofs.YtgnfkkcagbbhmaaGreatDoor
