/- The reference's want, signs, reserved. -/
import Derived.Test.YtaoocecipacnhaaDoorRxAq
import Derived.Test.YtaoocecipacnhaaDoorWdRq
namespace Go.Proofs.YtaoocecipacnhaaDoor
open Go.RowKit
set_option linter.unusedVariables false

set_option maxRecDepth 100000 in
set_option maxHeartbeats 4000000 in
theorem rwant_yes (g b cap : Nat) (T L : List Tk) (r : Tk) (hz : GoodT r) (s : ByteArray) (hs : sgB r s = true) (hL : L ≠ []) (d : Nat) (w : World) (h : RS g b cap T w (r :: L) d) :
    Calls Tryd.prog 39 #[.pointer (some ⟨g, 0, none⟩), .string s] w fun e w' => e = .returned (.tuple #[]) ∧ Kp g w w' ∧ RS g b cap T w' L d := by
  obtain ⟨⟨pre, a0, e, hb⟩, htr, hne, hle, hmost⟩ := id h
  have c0 := hb.c 0 rfl
  have hg := hb.1
  have hbl := htr.1
  obtain ⟨t0, t1, t2⟩ := htr.at e
  unfold maxLen at hmost
  have hlen : T.length = pre.length + L.length + 1 := by rw [e]; simp <;> omega
  have HH : Hid (RS g b cap T w (r :: L) d) := h
  clear hb htr e h
  have HSg := rsign_any g b cap T L r hz s (fun _ => hL) d w HH.out
  rw [hs, if_pos rfl] at HSg
  have HSi : Hid _ := HSg
  clear HSg
  go_enter Tryd.func39, Tryd.ntmps39
  go_wp2_with fail
  refine Calls.mono HSi.out ?_
  rintro e W ⟨rfl, hk, hr⟩
  have HK : Hid (Kp g w W) := hk
  have HR : Hid (RS g b cap T W L d) := hr
  clear hk hr
  go_wp2
  refine bodyPost_end (v := .tuple #[]) (by simp [results, Tryd.results39, go_sem]) rfl ⟨rfl, HK.out, HR.out⟩

set_option maxRecDepth 100000 in
set_option maxHeartbeats 4000000 in
theorem rwant_no (g b lo cap : Nat) (T L : List Tk) (r : Tk) (hz : GoodT r) (s : ByteArray) (hs : sgB r s = false) (d : Nat) (hd : d ≤ 100) (w : World) (h : RS g b cap T w (r :: L) d) :
    Calls Tryd.prog 39 #[.pointer (some ⟨g, 0, none⟩), .string s] w fun e w' => e = .returned (.tuple #[]) ∧ Kp g w w' ∧ RF g b lo w' r.2.2 30 := by
  obtain ⟨⟨pre, a0, e, hb⟩, htr, hne, hle, hmost⟩ := id h
  have c0 := hb.c 0 rfl
  have hg := hb.1
  have hbl := htr.1
  obtain ⟨t0, t1, t2⟩ := htr.at e
  unfold maxLen at hmost
  have hlen : T.length = pre.length + L.length + 1 := by rw [e]; simp <;> omega
  have HH : Hid (RS g b cap T w (r :: L) d) := h
  clear hb htr e h
  have HSg := rsign_any g b cap T L r hz s (fun q => by rw [hs] at q; cases q) d w HH.out
  rw [hs, if_neg (by simp)] at HSg
  have HSi : Hid _ := HSg
  clear HSg
  go_enter Tryd.func39, Tryd.ntmps39
  go_wp2_with fail
  refine Calls.mono HSi.out ?_
  rintro e W ⟨rfl, hk, hr⟩
  have HK : Hid (Kp g w W) := hk
  have HF : Hid _ := rfail_ok g b lo cap T L r hz.size d hd 30 r.2.2 W hr
  clear hk hr
  go_wp2_with fail
  refine Calls.mono HF.out ?_
  rintro e W2 ⟨rfl, hk, hr⟩
  have HK2 : Hid (Kp g w W2) := HK.out.trans hk
  have HR : Hid (RF g b lo W2 r.2.2 30) := hr
  clear hk hr
  go_wp2
  refine bodyPost_end (v := .tuple #[]) (by simp [results, Tryd.results39, go_sem]) rfl ⟨rfl, HK2.out, HR.out⟩

set_option maxRecDepth 100000 in
set_option maxHeartbeats 4000000 in
theorem rwant_bad (g b lo : Nat) (s : ByteArray) (a e : Int) (he : e ≠ 0) (w : World) (h : RF g b lo w a e) :
    Calls Tryd.prog 39 #[.pointer (some ⟨g, 0, none⟩), .string s] w fun e' w' => e' = .returned (.tuple #[]) ∧ Kp g w w' ∧ RF g b lo w' a e := by
  obtain ⟨c, o, n, m, D, k, z, t, -, hb, h2, h3, h4, h5, h6, h7, hD, t0, t1, t2⟩ := id h
  have c0 := hb.c 0 rfl
  have hg := hb.1
  have hnI : (1 : Int) ≤ (n : Int) := by omega
  have hnmI : (n : Int) ≤ (m : Int) := by omega
  unfold maxLen at h4
  have hmI : (m : Int) ≤ 9223372036854775807 := by omega
  have HSi : Hid _ := rsign_bad g b lo s a e he w h
  have HE : Hid (e ≠ 0) := he
  clear hb h he
  go_enter Tryd.func39, Tryd.ntmps39
  go_wp2_with fail
  refine Calls.mono HSi.out ?_
  rintro e' W ⟨rfl, hk, hr⟩
  have HK : Hid (Kp g w W) := hk
  have HF : Hid _ := rfail_no g b lo 30 z a e HE.out W hr
  clear hk hr
  go_wp2_with fail
  refine Calls.mono HF.out ?_
  rintro e' W2 ⟨rfl, hk, hr⟩
  have HK2 : Hid (Kp g w W2) := HK.out.trans hk
  have HR : Hid (RF g b lo W2 a e) := hr
  clear hk hr
  go_wp2
  refine bodyPost_end (v := .tuple #[]) (by simp [results, Tryd.results39, go_sem]) rfl ⟨rfl, HK2.out, HR.out⟩

/-- the signs of a line of the grammar. -/
def sgW : Nat → List ByteArray
  | 0 => [orB]
  | 1 => [andB]
  | 3 => [b1 61, b2 60 62, b1 60, b2 60 61, b1 62, b2 62 61]
  | 4 => [b1 43, b1 45]
  | 5 => [b1 42, b1 47, b1 37]
  | _ => [atB]
def sTx (L : List ByteArray) : List Value := L.map Value.string

set_option maxRecDepth 100000 in
set_option maxHeartbeats 4000000 in
theorem rsigns_any (lev : Nat) (hl : lev = 0 ∨ lev = 1 ∨ lev = 3 ∨ lev = 4 ∨ lev = 5 ∨ lev = 7) (w : World) :
    Calls Tryd.prog 38 #[.int .i64 (lev : Int)] w fun e w' => e = .returned (.slice (some ⟨w.heap.size, 0, none⟩) (sgW lev).length (sgW lev).length) ∧ w' = w.alloc (.cells (sTx (sgW lev)).toArray 9) := by
  rcases hl with rfl | rfl | rfl | rfl | rfl | rfl <;>
    (go_enter Tryd.func38, Tryd.ntmps38
     go_wp2
     go_ret
     exact ⟨rfl, rfl⟩)

def rsW : List ByteArray := [trueB, falseB, notB, andB, orB, atB, timeB, zoneB]
def tyW : List ByteArray := [dateB, stampB, tzB, ivB]
theorem known_any {s : ByteArray} : ∀ (l : List ByteArray) (i : Nat), (∀ t ∈ l, lowB t = t) → (decide (0 ≤ findF (fun t => sameB s t) i l) = l.any (fun t => decide (lowB s = t)))
  | [], i, h => rfl
  | t :: l, i, h => by
    rw [findF]
    have ht := h t List.mem_cons_self
    by_cases e : lowB s = t
    · rw [if_pos (by unfold sameB; simp [ht, e])]
      simp [e]
    · rw [if_neg (by unfold sameB; simp [ht, e]), known_any l (i + 1) (fun t ht => h t (List.mem_cons_of_mem _ ht))]
      simp [e]
theorem rsv_known (s : ByteArray) : decide (0 ≤ knownB s rsW) = rsvd (lowB s) := by
  unfold knownB
  rw [known_any rsW 0 (by intro t ht; unfold rsW at ht; simp only [List.mem_cons, List.not_mem_nil, or_false] at ht; rcases ht with rfl | rfl | rfl | rfl | rfl | rfl | rfl | rfl <;> decide +kernel)]
  simp [rsW, rsvd, Bool.or_assoc]
theorem typ_known (s : ByteArray) : decide (0 ≤ knownB s tyW) = typB (lowB s) := by
  unfold knownB
  rw [known_any tyW 0 (by intro t ht; unfold tyW at ht; simp only [List.mem_cons, List.not_mem_nil, or_false] at ht; rcases ht with rfl | rfl | rfl | rfl <;> decide +kernel)]
  simp [tyW, typB, Bool.or_assoc]
theorem txt_new (w : World) (L : List ByteArray) : TxtA (w.alloc (.cells (sTx L).toArray 9)) ⟨w.heap.size, 0, none⟩ L := ⟨trivial, fun j t ht => by
  rw [show (⟨w.heap.size, 0, none⟩ : Addr).add j = ⟨w.heap.size, j, none⟩ from by rw [Addr.add_lit]; simp]
  exact (Bx.new w (sTx L) 9).c j (by unfold sTx; simp [ht])⟩

set_option maxRecDepth 100000 in
set_option maxHeartbeats 4000000 in
theorem rreserved_any (s : ByteArray) (hs : s.size ≤ 140737488351232) (w : World) :
    Calls Tryd.prog 59 #[.string s] w fun e w' => e = .returned (.bool (rsvd (lowB s))) ∧ Below w.heap.size w w' := by
  have HK := rknownA_any s rsW ⟨w.heap.size, 0, none⟩ 8 (w.alloc (.cells (sTx rsW).toArray 9)) hs (by intro j t ht; have := List.mem_of_getElem? ht; unfold rsW at this; simp only [List.mem_cons, List.not_mem_nil, or_false] at this; rcases this with rfl | rfl | rfl | rfl | rfl | rfl | rfl | rfl <;> decide) (by decide) (by decide) (txt_new w rsW)
  rw [← rsv_known]
  obtain ⟨G, hG⟩ : ∃ G, knownB s rsW = G := ⟨_, rfl⟩
  rw [hG] at HK ⊢
  have HKK : Hid _ := HK
  clear HK hG
  go_enter Tryd.func59, Tryd.ntmps59
  go_wp2_with fail
  refine Calls.mono HKK.out ?_
  rintro e W ⟨rfl, hk⟩
  have HB : Hid (Below w.heap.size w W) := ((Below.refl _ w).alloc (Nat.le_refl _) _).trans (hk.mono (by simp))
  clear hk HKK
  go_wp2
  go_ret
  exact ⟨rfl, HB.out⟩

end Go.Proofs.YtaoocecipacnhaaDoor
