import Derived.Test.YthhpdjjfbfkgiaaGreatDoorS29
import Derived.Test.YthhpdjjfbfkgiaaGreatDoorS12
/- What the parser says of the fixed source of law08's known. -/
namespace Go.Proofs.YthhpdjjfbfkgiaaGreatDoor
open Go.RowKit
set_option linter.unusedVariables false

def knownT : ByteArray := ⟨#[82, 117, 108, 101, 32, 69, 32, 49, 57, 56, 49, 32, 109, 97, 120, 32, 45, 32, 77, 97, 114, 32, 108, 97, 115, 116, 83, 117, 110, 32, 49, 58, 48, 48, 117, 32, 49, 58, 48, 48, 32, 83, 10, 90, 111, 110, 101, 32, 65, 32, 49, 58, 48, 48, 32, 69, 32, 67, 69, 37, 115, 84, 10]⟩
def knownOk : Sum (Int × Int) PSt → Bool
  | .inl _ => false
  | .inr S => match S.rules, S.zones with
    | [r], [z] => (r.nm == ⟨#[69]⟩) && (r.fr == 1981) && (r.tt == 1073741824) && (r.mo == 3) && (r.ta == 3600) && (r.tz == 117) && (r.sv == 3600) && (r.lt == ⟨#[83]⟩) && (z.2.length == 1)
    | _, _ => false
set_option maxRecDepth 1000000 in
theorem known_ok : knownOk (parseP knownT) = true := by decide +kernel

end Go.Proofs.YthhpdjjfbfkgiaaGreatDoor
/- Contracts: src.Format of law08's three fixed calls. -/
namespace Go.Proofs.YthhpdjjfbfkgiaaGreatDoor
open Go.RowKit
set_option linter.unusedVariables false

theorem lib_a : Lib.cut [67, 69, 37, 115, 84] [47] = ([67, 69, 37, 115, 84], [], false) := by decide +kernel
theorem lib_b : Lib.contains [67, 69, 37, 115, 84] [37, 115] = true := by decide +kernel
theorem lib_c : Lib.replace [67, 69, 37, 115, 84] [37, 115] [83] 1 = [67, 69, 83, 84] := by decide +kernel
theorem lib_d : Lib.cut [37, 122] [47] = ([37, 122], [], false) := by decide +kernel
theorem lib_e : Lib.contains [37, 122] [37, 115] = false := by decide +kernel
theorem lib_f : Lib.replace [37, 122] [37, 122] [45, 48, 51, 51, 48] 1 = [45, 48, 51, 51, 48] := by decide +kernel
theorem lib_g : Lib.cut [71, 77, 84, 47, 66, 83, 84] [47] = ([71, 77, 84], [66, 83, 84], true) := by decide +kernel
theorem two_3 : Clk.twoB 3 = ⟨#[48, 51]⟩ := by decide +kernel
theorem two_30 : Clk.twoB 30 = ⟨#[51, 48]⟩ := by decide +kernel

set_option maxRecDepth 100000 in
set_option maxHeartbeats 4000000 in
theorem fmt_a (w : World) (hM : Lin.Mx w) : Calls Tryz.prog 11 #[.string ⟨#[67, 69, 37, 115, 84]⟩, .int .i64 3600, .string ⟨#[83]⟩, .int .i64 7200] w fun e w' => e = .returned (.string ⟨#[67, 69, 83, 84]⟩) ∧ Below w.heap.size w w' := by
  have HM : Hid (Lin.Mx w) := hM
  clear hM
  go_enter Tryz.func11, Tryz.ntmps11
  go_wp2_with fail
  obtain ⟨m, hm⟩ := HM.out
  refine (Tryz.strings_Cut ⟨#[67, 69, 37, 115, 84]⟩ ⟨#[47]⟩ m w (by decide) hm).mono ?_
  rintro e w1 ⟨rfl, n, hn⟩
  have b1 : Hid (Below w.heap.size w w1) := by rw [hn]; exact Clk.below_drewN (Below.refl _ _) n
  clear hn hm
  rw [show (⟨#[67, 69, 37, 115, 84]⟩ : ByteArray).data.toList = [67, 69, 37, 115, 84] from rfl, show (⟨#[47]⟩ : ByteArray).data.toList = [47] from rfl, lib_a]
  go_wp2_with fail
  obtain ⟨m1, hm1⟩ := HM.out.below b1.out
  refine (Tryz.strings_Contains ⟨#[67, 69, 37, 115, 84]⟩ ⟨#[37, 115]⟩ m1 w1 (by decide) hm1).mono ?_
  rintro e w2 ⟨rfl, rfl⟩
  rw [show (⟨#[67, 69, 37, 115, 84]⟩ : ByteArray).data.toList = [67, 69, 37, 115, 84] from rfl, show (⟨#[37, 115]⟩ : ByteArray).data.toList = [37, 115] from rfl, lib_b]
  go_wp2_with fail
  refine (Tryz.strings_Replace ⟨#[67, 69, 37, 115, 84]⟩ ⟨#[37, 115]⟩ ⟨#[83]⟩ 1 m1 _ (by decide) hm1 (by decide) (by decide +kernel)).mono ?_
  rintro e w3 ⟨rfl, hb3⟩
  rw [show (⟨#[67, 69, 37, 115, 84]⟩ : ByteArray).data.toList = [67, 69, 37, 115, 84] from rfl, show (⟨#[37, 115]⟩ : ByteArray).data.toList = [37, 115] from rfl, show (⟨#[83]⟩ : ByteArray).data.toList = [83] from rfl, lib_c]
  go_wp2_with fail
  go_ret
  exact ⟨rfl, b1.out.trans (hb3.mono b1.out.size)⟩

set_option maxRecDepth 100000 in
set_option maxHeartbeats 4000000 in
theorem off_b (w : World) (hT : Clk.Tab w) : Calls Tryz.prog 24 #[.int .i64 (-12600)] w fun e w' => e = .returned (.string ⟨#[45, 48, 51, 51, 48]⟩) ∧ Below w.heap.size w w' := by
  have HT : Hid (Clk.Tab w) := hT
  clear hT
  have n1 : IntKind.i64.wrap 12600 = 12600 := by decide
  have n2 : wrap64 3 = 3 := by unfold wrap64; omega
  have n3 : wrap64 210 = 210 := by unfold wrap64; omega
  have m1 : min (12600 : Int) 359999 = 12600 := by decide
  have m2 : min (-12600 : Int) 359999 = -12600 := by decide
  have q1 : (12600 : Int).tdiv 3600 = 3 := by decide
  have q2 : (12600 : Int).tmod 3600 = 1800 := by decide
  have q3 : (12600 : Int).tdiv 60 = 210 := by decide
  have q4 : (210 : Int).tmod 60 = 30 := by decide
  have q5 : (12600 : Int).tmod 60 = 0 := by decide
  go_enter Tryz.func24, Tryz.ntmps24
  go_wp2_with fail
  refine (Clk.two_any 3 (by omega) (by omega) _ HT.out).mono ?_
  rintro e w1 ⟨rfl, hb1⟩
  rw [two_3]
  have T1 : Hid (Clk.Tab w1) := HT.out.below hb1
  go_wp2_with fail
  refine (Clk.two_any 30 (by omega) (by omega) _ T1.out).mono ?_
  rintro e w2 ⟨rfl, hb2⟩
  rw [two_30]
  go_wp2_with fail
  go_ret
  exact ⟨rfl, hb1.trans (hb2.mono hb1.size)⟩

set_option maxRecDepth 100000 in
set_option maxHeartbeats 4000000 in
theorem fmt_b (w : World) (hM : Lin.Mx w) (hT : Clk.Tab w) : Calls Tryz.prog 11 #[.string ⟨#[37, 122]⟩, .int .i64 0, .string ⟨#[]⟩, .int .i64 (-12600)] w fun e w' => e = .returned (.string ⟨#[45, 48, 51, 51, 48]⟩) ∧ Below w.heap.size w w' := by
  have HM : Hid (Lin.Mx w) := hM
  have HT : Hid (Clk.Tab w) := hT
  clear hM hT
  go_enter Tryz.func11, Tryz.ntmps11
  go_wp2_with fail
  obtain ⟨m, hm⟩ := HM.out
  refine (Tryz.strings_Cut ⟨#[37, 122]⟩ ⟨#[47]⟩ m w (by decide) hm).mono ?_
  rintro e w1 ⟨rfl, n, hn⟩
  have b1 : Hid (Below w.heap.size w w1) := by rw [hn]; exact Clk.below_drewN (Below.refl _ _) n
  clear hn hm
  rw [show (⟨#[37, 122]⟩ : ByteArray).data.toList = [37, 122] from rfl, show (⟨#[47]⟩ : ByteArray).data.toList = [47] from rfl, lib_d]
  go_wp2_with fail
  obtain ⟨m1, hm1⟩ := HM.out.below b1.out
  refine (Tryz.strings_Contains ⟨#[37, 122]⟩ ⟨#[37, 115]⟩ m1 w1 (by decide) hm1).mono ?_
  rintro e w2 ⟨rfl, rfl⟩
  rw [show (⟨#[37, 122]⟩ : ByteArray).data.toList = [37, 122] from rfl, show (⟨#[37, 115]⟩ : ByteArray).data.toList = [37, 115] from rfl, lib_e]
  clear hm1
  go_wp2_with fail
  refine (off_b w2 (HT.out.below b1.out)).mono ?_
  rintro e w3 ⟨rfl, hb3⟩
  have b3 : Hid (Below w.heap.size w w3) := b1.out.trans (hb3.mono b1.out.size)
  clear hb3
  go_wp2_with fail
  obtain ⟨m3, hm3⟩ := HM.out.below b3.out
  refine (Tryz.strings_Replace ⟨#[37, 122]⟩ ⟨#[37, 122]⟩ ⟨#[45, 48, 51, 51, 48]⟩ 1 m3 _ (by decide) hm3 (by decide) (by decide +kernel)).mono ?_
  rintro e w4 ⟨rfl, hb4⟩
  rw [show (⟨#[37, 122]⟩ : ByteArray).data.toList = [37, 122] from rfl, show (⟨#[45, 48, 51, 51, 48]⟩ : ByteArray).data.toList = [45, 48, 51, 51, 48] from rfl, lib_f]
  clear hm3
  go_wp2_with fail
  go_ret
  exact ⟨rfl, b3.out.trans (hb4.mono b3.out.size)⟩

set_option maxRecDepth 100000 in
set_option maxHeartbeats 4000000 in
theorem fmt_c (w : World) (hM : Lin.Mx w) : Calls Tryz.prog 11 #[.string ⟨#[71, 77, 84, 47, 66, 83, 84]⟩, .int .i64 3600, .string ⟨#[]⟩, .int .i64 3600] w fun e w' => e = .returned (.string ⟨#[66, 83, 84]⟩) ∧ Below w.heap.size w w' := by
  have HM : Hid (Lin.Mx w) := hM
  clear hM
  go_enter Tryz.func11, Tryz.ntmps11
  go_wp2_with fail
  obtain ⟨m, hm⟩ := HM.out
  refine (Tryz.strings_Cut ⟨#[71, 77, 84, 47, 66, 83, 84]⟩ ⟨#[47]⟩ m w (by decide) hm).mono ?_
  rintro e w1 ⟨rfl, n, hn⟩
  have b1 : Hid (Below w.heap.size w w1) := by rw [hn]; exact Clk.below_drewN (Below.refl _ _) n
  clear hn hm
  rw [show (⟨#[71, 77, 84, 47, 66, 83, 84]⟩ : ByteArray).data.toList = [71, 77, 84, 47, 66, 83, 84] from rfl, show (⟨#[47]⟩ : ByteArray).data.toList = [47] from rfl, lib_g]
  go_wp2_with fail
  go_ret
  exact ⟨rfl, b1.out⟩

end Go.Proofs.YthhpdjjfbfkgiaaGreatDoor
/- Contract: law08's known. -/
namespace Go.Proofs.YthhpdjjfbfkgiaaGreatDoor
open Go.RowKit
set_option linter.unusedVariables false

theorem known_is : ∃ (S : PSt) (oa ob oc : Int) (z : ZnT'), parseP knownT = .inr S ∧ S.rules = [⟨⟨#[69]⟩, 1981, 1073741824, 3, oa, ob, oc, 3600, 117, 3600, ⟨#[83]⟩⟩] ∧ S.zones = [z] ∧ z.2.length = 1 := by
  have hk := known_ok
  cases hP : parseP knownT with
  | inl a => rw [hP] at hk; cases hk
  | inr S =>
    rw [hP] at hk
    unfold knownOk at hk
    dsimp only at hk
    split at hk
    · rename_i r z hr hz
      simp only [Bool.and_eq_true, beq_iff_eq] at hk
      obtain ⟨⟨⟨⟨⟨⟨⟨⟨h1, h2⟩, h3⟩, h4⟩, h5⟩, h6⟩, h7⟩, h8⟩, h9⟩ := hk
      obtain ⟨nm, fr, tt, mo, oa, ob, oc, ta, tz, sv, lt⟩ := r
      simp only at h1 h2 h3 h4 h5 h6 h7 h8
      have h1 := (bytes_beqS _ _).1 h1
      have h8 := (bytes_beqS _ _).1 h8
      subst h1 h2 h3 h4 h5 h6 h7 h8
      exact ⟨S, oa, ob, oc, z, rfl, hr, hz, h9⟩
    · exact absurd hk (by decide)

set_option maxRecDepth 100000 in
set_option maxHeartbeats 4000000 in
theorem known08_any (w : World) (hM : Lin.Mx w) (hT : Clk.Tab w) : Calls Tryz.prog 5 #[] w fun e w' => e = .returned (.bool true) ∧ Below w.heap.size w w' := by
  obtain ⟨S, oa, ob, oc, z, hP, hr, hz, hz1⟩ := known_is
  have HM : Hid (Lin.Mx w) := hM
  have HT : Hid (Clk.Tab w) := hT
  clear hM hT
  have e1 : ((⟨#[69]⟩ : ByteArray).toList == [69]) = true := by decide +kernel
  have e2 : ((⟨#[83]⟩ : ByteArray).toList == [83]) = true := by decide +kernel
  have e3 : ((⟨#[67, 69, 83, 84]⟩ : ByteArray).toList == [67, 69, 83, 84]) = true := by decide +kernel
  have e4 : ((⟨#[45, 48, 51, 51, 48]⟩ : ByteArray).toList == [45, 48, 51, 51, 48]) = true := by decide +kernel
  have e5 : ((⟨#[66, 83, 84]⟩ : ByteArray).toList == [66, 83, 84]) = true := by decide +kernel
  go_enter Tryz.func5, Tryz.ntmps5
  go_wp2_with fail
  refine (parse_any knownT w HM.out (by decide +kernel)).mono ?_
  rintro e w1 ⟨hb, hI⟩
  rw [hP] at hI
  obtain ⟨vr, vl, ve, vz, vs, B, rfl, hB, hF, hlen, hO⟩ := hI
  have HB : Hid (Below w.heap.size w w1) := hb
  obtain ⟨a1, c1, h1, h2, h3, h4⟩ := own_rowP (hF.get 0 rfl)
  obtain ⟨a3, c3, h5, h6, h7, h8⟩ := own_rowP (hF.get 3 rfl)
  obtain ⟨a2, c2, h9, -, -, -⟩ := own_rowP (hF.get 1 rfl)
  simp only at h1 h2 h4 h5 h6 h8 h9
  subst h1 h5 h9
  rw [hr] at h2 h4
  rw [hz] at h6 h8
  obtain ⟨b1, hb1, -⟩ := h4 (by simp)
  obtain ⟨b3, hb3, -⟩ := h8 (by simp)
  subst hb1 hb3
  have hz0 : S.zones[0]? = some z := by rw [hz]; rfl
  obtain ⟨v, g0, g1, g2⟩ := zoneXs_at _ _ 0 z hlen hz0
  obtain ⟨a4, c4, h10, -, -, -⟩ := own_rowP (famEra hF hz0 g2)
  subst h10
  have hrl : S.rules.length = 1 := by rw [hr]; rfl
  have hzl : S.zones.length = 1 := by rw [hz]; rfl
  have k1 := ((hF.get 3 rfl).cellAt 1 (by show _ < S.zones.length * 2; rw [hzl]; decide)).trans g1
  have hr0 : S.rules[0]? = some ⟨⟨#[69]⟩, 1981, 1073741824, 3, oa, ob, oc, 3600, 117, 3600, ⟨#[83]⟩⟩ := by rw [hr]; rfl
  have r0 := ((hF.get 0 rfl).cellAt 0 (by show _ < S.rules.length * 11; rw [hrl]; decide)).trans (ruleXs_at _ 0 0 _ _ hr0 rfl)
  have r1 := ((hF.get 0 rfl).cellAt 1 (by show _ < S.rules.length * 11; rw [hrl]; decide)).trans (ruleXs_at _ 0 1 _ _ hr0 rfl)
  have r2 := ((hF.get 0 rfl).cellAt 2 (by show _ < S.rules.length * 11; rw [hrl]; decide)).trans (ruleXs_at _ 0 2 _ _ hr0 rfl)
  have r3 := ((hF.get 0 rfl).cellAt 3 (by show _ < S.rules.length * 11; rw [hrl]; decide)).trans (ruleXs_at _ 0 3 _ _ hr0 rfl)
  have r4 := ((hF.get 0 rfl).cellAt 4 (by show _ < S.rules.length * 11; rw [hrl]; decide)).trans (ruleXs_at _ 0 4 _ _ hr0 rfl)
  have r5 := ((hF.get 0 rfl).cellAt 5 (by show _ < S.rules.length * 11; rw [hrl]; decide)).trans (ruleXs_at _ 0 5 _ _ hr0 rfl)
  have r6 := ((hF.get 0 rfl).cellAt 6 (by show _ < S.rules.length * 11; rw [hrl]; decide)).trans (ruleXs_at _ 0 6 _ _ hr0 rfl)
  have r7 := ((hF.get 0 rfl).cellAt 7 (by show _ < S.rules.length * 11; rw [hrl]; decide)).trans (ruleXs_at _ 0 7 _ _ hr0 rfl)
  have r8 := ((hF.get 0 rfl).cellAt 8 (by show _ < S.rules.length * 11; rw [hrl]; decide)).trans (ruleXs_at _ 0 8 _ _ hr0 rfl)
  have r9 := ((hF.get 0 rfl).cellAt 9 (by show _ < S.rules.length * 11; rw [hrl]; decide)).trans (ruleXs_at _ 0 9 _ _ hr0 rfl)
  have r10 := ((hF.get 0 rfl).cellAt 10 (by show _ < S.rules.length * 11; rw [hrl]; decide)).trans (ruleXs_at _ 0 10 _ _ hr0 rfl)
  have kw := World.block_lt_of_cell? _ _ r0
  have kz := World.block_lt_of_cell? _ _ k1
  clear hF hO hP hlen hb g0 g1 g2 hz0 hr0 hr hz h2 h3 h4 h6 h7 h8
  rw [hrl, hzl]
  rw [hz1] at k1
  clear hrl hzl hz1
  go_wp2_with fail
  have q1 : Below w1.heap.size w1 ((w1.alloc (.cells #[.slice (some ⟨b1, 0, none⟩) 1 c1, .slice (some ⟨b3, 0, none⟩) 1 c3, .slice a2 S.links.length c2] 26)).alloc (.cells #[.string ⟨#[69]⟩, .int .i64 1981, .int .i64 1073741824, .int .i64 3, .int .i64 oa, .int .i64 ob, .int .i64 oc, .int .i64 3600, .int .u8 117, .int .i64 3600, .string ⟨#[83]⟩] 63)) := ((Below.refl _ _).alloc (Nat.le_refl _) _).alloc (by simp) _
  have B2 : Hid (Below w.heap.size w _) := HB.out.trans (q1.mono HB.out.size)
  clear q1 r0 r1 r2 r3 r4 r5 r6 r7 r8 r9 r10 kw k1 kz
  refine (fmt_a _ (HM.out.below B2.out)).mono ?_
  rintro e w2 ⟨rfl, hb2⟩
  have B3 : Hid (Below w.heap.size w w2) := B2.out.trans (hb2.mono B2.out.size)
  clear hb2 B2
  go_wp2_with fail
  refine (fmt_b _ (HM.out.below B3.out) (HT.out.below B3.out)).mono ?_
  rintro e w3 ⟨rfl, hb3⟩
  have B4 : Hid (Below w.heap.size w w3) := B3.out.trans (hb3.mono B3.out.size)
  clear hb3 B3
  go_wp2_with fail
  refine (fmt_c _ (HM.out.below B4.out)).mono ?_
  rintro e w4 ⟨rfl, hb4⟩
  have B5 : Hid (Below w.heap.size w w4) := B4.out.trans (hb4.mono B4.out.size)
  clear hb4 B4
  go_wp2_with fail
  go_ret
  exact ⟨rfl, B5.out⟩

end Go.Proofs.YthhpdjjfbfkgiaaGreatDoor
/- Plain mathematics: a source with a rule more behind it. -/
namespace Go.Proofs.YthhpdjjfbfkgiaaGreatDoor
open Go.RowKit Lin
set_option linter.unusedVariables false

def moreT : ByteArray := ⟨#[10, 82, 117, 108, 101, 32, 79, 119, 110, 32, 50, 48, 48, 48, 32, 109, 97, 120, 32, 45, 32, 74, 97, 110, 32, 49, 32, 48, 32, 48, 32, 45, 10]⟩
def moreL : List UInt8 := [82, 117, 108, 101, 32, 79, 119, 110, 32, 50, 48, 48, 48, 32, 109, 97, 120, 32, 45, 32, 74, 97, 110, 32, 49, 32, 48, 32, 48, 32, 45]
def ownT : ByteArray := ⟨#[79, 119, 110]⟩
def moreR : List ByteArray := [ownT, ⟨#[50, 48, 48, 48]⟩, ⟨#[109, 97, 120]⟩, ⟨#[45]⟩, ⟨#[74, 97, 110]⟩, ⟨#[49]⟩, ⟨#[48]⟩, ⟨#[48]⟩, ⟨#[45]⟩]
set_option maxRecDepth 1000000 in
theorem more_one : oneL moreL = some (ruleT' :: moreR) := by decide +kernel
theorem more_none : oneL [] = some [] := by decide +kernel
theorem more_pieces : pieces [] (moreL ++ [10]) = [moreL, []] := by decide +kernel
theorem more_split : moreT.data.toList = 10 :: (moreL ++ [10]) := by decide +kernel
set_option maxRecDepth 1000000 in
theorem more_rule : ∃ r, ruleF moreR = some r ∧ r.nm = ownT := by
  have h : (match ruleF moreR with | none => false | some r => r.nm == ownT) = true := by decide +kernel
  cases hr : ruleF moreR with
  | none => rw [hr] at h; exact absurd h (by decide)
  | some r => rw [hr] at h; exact ⟨r, rfl, (bytes_beqS _ _).1 h⟩
theorem same_rule : Wrd.sameB ruleT' ruleT' = true := by decide +kernel
theorem pieces_app : ∀ (a cur b : List UInt8), pieces cur (a ++ 10 :: b) = pieces cur a ++ pieces [] b
  | [], cur, b => by simp [pieces]
  | c :: a, cur, b => by
    rw [List.cons_append, pieces, pieces]
    split
    · rw [pieces_app a [] b]; rfl
    · exact pieces_app a _ b
theorem lnsF_app : ∀ (t1 t2 : List (List UInt8)) (n : Nat) (acc : List Lne), lnsF (t1 ++ t2) n acc = match lnsF t1 n acc with | .inl a => .inl a | .inr L => lnsF t2 (n + t1.length) L
  | [], t2, n, acc => rfl
  | t :: t1, t2, n, acc => by
    rw [List.cons_append, List.length_cons, show n + (t1.length + 1) = n + 1 + t1.length by omega]
    cases ho : oneL t with
    | none => rw [lnsF_none ho, lnsF_none ho]
    | some F =>
      rw [lnsF_some ho, lnsF_some ho]
      split
      · exact lnsF_app t1 t2 _ _
      · split
        · rfl
        · exact lnsF_app t1 t2 _ _
theorem runP_app : ∀ (L : List Lne) (S : PSt) (x : Lne), runP S (L ++ [x]) = match runP S L with | .inl a => .inl a | .inr S' => runP S' [x]
  | [], S, x => rfl
  | l :: L, S, x => by
    rw [List.cons_append, runP, runP]
    cases tkF S l.1 l.2 with
    | inl e => rfl
    | inr S' => exact runP_app L S' x
theorem lnsF_pos : ∀ (ts : List (List UInt8)) (n : Nat) (acc L : List Lne), (∀ p ∈ acc, 1 ≤ p.1) → lnsF ts n acc = .inr L → ∀ p ∈ L, 1 ≤ p.1
  | [], n, acc, L, h, e => by
    have : acc = L := by simpa [lnsF] using e
    rw [← this]; exact h
  | t :: ts, n, acc, L, h, e => by
    cases ho : oneL t with
    | none => rw [lnsF_none ho] at e; cases e
    | some F =>
      rw [lnsF_some ho] at e
      split at e
      · exact lnsF_pos ts _ _ _ h e
      · split at e
        · cases e
        · refine lnsF_pos ts _ _ _ (fun p hp => ?_) e
          rcases List.mem_append.1 hp with hp | hp
          · exact h p hp
          · rw [List.mem_singleton.1 hp]; show 1 ≤ (n : Int) + 1; omega
/-- what holds of the counts while there is no rule, and of the lines of eras. -/
def NoR (S : PSt) : Prop := (S.rules = [] → S.dn = 0 ∧ ∀ k, S.cnt k = 0) ∧ ∀ e ∈ S.eras, 1 ≤ e.1
theorem tkF_nor {S S' : PSt} {n : Int} {F : List ByteArray} (hn : 1 ≤ n) (h : NoR S) (e : tkF S n F = .inr S') : NoR S' := by
  have ha : ∀ (S0 : PSt) (x : EraT), NoR S0 → NoR (addF S0 n x) := fun S0 x h0 => ⟨h0.1, fun y hy => by
    rcases List.mem_append.1 (show y ∈ S0.eras ++ [(n, x.rl)] from hy) with hy | hy
    · exact h0.2 y hy
    · rw [List.mem_singleton.1 hy]; exact hn⟩
  unfold tkF at e
  split at e
  · unfold tkOn at e
    split at e
    · cases e
    · split at e
      · cases e
      · cases e; exact ha S _ h
  · split at e
    · cases e
    · split at e
      · unfold tkRule at e
        split at e
        · cases e
        · split at e
          · cases e
          · cases e; exact ⟨fun q => absurd q (by simp), h.2⟩
      · split at e
        · unfold tkZone at e
          split at e
          · cases e
          · split at e
            · cases e
            · split at e
              · cases e
              · cases e; exact ha _ _ h
        · split at e
          · unfold tkLink at e
            split at e
            · cases e
            · split at e
              · cases e
              · split at e
                · cases e
                · cases e; exact h
          · cases e
theorem runP_nor : ∀ (L : List Lne) (S S' : PSt), (∀ p ∈ L, 1 ≤ p.1) → NoR S → runP S L = .inr S' → NoR S'
  | [], S, S', _, h, e => by cases e; exact h
  | l :: L, S, S', hp, h, e => by
    rw [runP] at e
    cases ht : tkF S l.1 l.2 with
    | inl a => rw [ht] at e; cases e
    | inr S1 =>
      rw [ht] at e
      exact runP_nor L S1 S' (fun p hq => hp p (List.mem_cons_of_mem _ hq)) (tkF_nor (hp l List.mem_cons_self) h ht) e
theorem lostL_none : ∀ (l : List (Int × ByteArray)) (cnt cnt' : ByteArray → Int), (∀ e ∈ l, 1 ≤ e.1) → (∀ k, cnt k = 0) → ¬ 0 < lostL cnt l → lostL cnt' l = 0
  | [], cnt, cnt', _, _, _ => rfl
  | e :: l, cnt, cnt', hp, h0, h => by
    rw [lostL] at h ⊢
    by_cases he : e.2.toList = []
    · rw [if_pos he] at h ⊢
      exact lostL_none l cnt cnt' (fun x hx => hp x (List.mem_cons_of_mem _ hx)) h0 h
    · rw [if_neg he, if_pos (h0 _)] at h
      have := hp e List.mem_cons_self
      omega
theorem more_ok (s : ByteArray) (S : PSt) (h : parseP s = .inr S) (hs : s.size ≤ 8000) (hr : S.rules = []) :
    (∃ a, parseP (s ++ moreT) = .inl (a, 3)) ∨ ∃ S' r, parseP (s ++ moreT) = .inr S' ∧ S'.rules = [r] ∧ r.nm = ownT ∧ S'.zones = S.zones ∧ S'.links = S.links := by
  cases hL : lnsS s with
  | inl a => rw [parseP_none hL] at h; cases h
  | inr L =>
    rw [parseP_lines hL] at h
    have hsz : (s ++ moreT).size = s.size + 33 := by rw [ByteArray.size_append]; rfl
    have hL2 : lnsF (pieces [] s.data.toList) 0 [] = .inr L := by
      unfold lnsS at hL
      split at hL
      · cases hL
      · exact hL
    have e1 : lnsS (s ++ moreT) = lnsF [moreL, []] (0 + (pieces [] s.data.toList).length) L := by
      unfold lnsS
      rw [if_neg (by omega), show (s ++ moreT).data.toList = s.data.toList ++ moreT.data.toList by simp, more_split, pieces_app, lnsF_app, hL2, more_pieces]
    generalize 0 + (pieces [] s.data.toList).length = N at e1
    rw [lnsF_some more_one, if_neg (by decide)] at e1
    by_cases h4 : L.length = 400
    · rw [if_pos (.inr h4)] at e1
      exact .inl ⟨_, parseP_none e1⟩
    · rw [if_neg (fun q => by rcases q with q | q; exact absurd q (by decide); exact h4 q), lnsF_some more_none, if_pos (show ([] : List ByteArray).length = 0 from rfl)] at e1
      have e2 : lnsS (s ++ moreT) = .inr (L ++ [((N : Int) + 1, ruleT' :: moreR)]) := e1
      have hpos := lnsF_pos _ _ _ _ (fun p hp => by cases hp) hL2
      cases hrun : runP pst0 L with
      | inl a => rw [hrun] at h; cases h
      | inr S0 =>
        rw [hrun] at h
        have hS : S0 = S ∧ S.op = false ∧ ¬ 0 < lostF S := by
          unfold endP at h
          dsimp only at h
          split at h
          · cases h
          · split at h
            · cases h
            · rename_i q1 q2
              cases h
              exact ⟨rfl, by simpa using q1, q2⟩
        obtain ⟨rfl, hop, hlo⟩ := hS
        have hN := runP_nor L pst0 S0 hpos ⟨fun _ => ⟨rfl, fun _ => rfl⟩, fun e he => by cases he⟩ hrun
        obtain ⟨hd, hc⟩ := hN.1 hr
        obtain ⟨r, hrf, hrn⟩ := more_rule
        have ht : tkF S0 ((N : Int) + 1) (ruleT' :: moreR) = .inr { S0 with rules := S0.rules ++ [r], dn := if S0.cnt r.nm = 0 then S0.dn + 1 else S0.dn, cnt := fun k => if k = r.nm then S0.cnt r.nm + 1 else S0.cnt k } := by
          unfold tkF
          rw [if_neg (by rw [hop]; decide)]
          dsimp only
          rw [if_pos same_rule]
          unfold tkRule
          rw [hrf]
          dsimp only
          rw [if_neg (by rw [hc, hd]; omega)]
        refine .inr ⟨{ S0 with rules := S0.rules ++ [r], dn := if S0.cnt r.nm = 0 then S0.dn + 1 else S0.dn, cnt := fun k => if k = r.nm then S0.cnt r.nm + 1 else S0.cnt k }, r, ?_, by show S0.rules ++ [r] = _; rw [hr]; rfl, hrn, rfl, rfl⟩
        rw [parseP_lines e2, runP_app, hrun]
        dsimp only
        rw [runP]
        dsimp only
        rw [ht]
        dsimp only
        rw [runP]
        unfold endP
        dsimp only
        rw [if_neg (by rw [hop]; decide), if_neg]
        rw [lost_eq]
        dsimp only
        rw [lost_eq] at hlo
        rw [lostL_none S0.eras S0.cnt _ hN.2 hc hlo]
        omega

end Go.Proofs.YthhpdjjfbfkgiaaGreatDoor
