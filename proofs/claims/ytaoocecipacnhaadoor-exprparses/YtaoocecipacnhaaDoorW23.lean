import Derived.Test.YtaoocecipacnhaaDoorWz
import Derived.Test.YtaoocecipacnhaaDoorW20
import Derived.Test.YtaoocecipacnhaaDoorW22
import Derived.Test.YtaoocecipacnhaaDoorW5
import Derived.Deep.RegionHeld3
open Go.Value renaming int → vi
open Go.IntKind renaming i64 → ki
open List renaming setIfInBounds_toArray → zb, set_cons_zero → zc, set_cons_succ → zd
open Go.Act renaming put → za
open Go.Ending renaming returned → zr
set_option maxRecDepth 100000
set_option maxHeartbeats 16000000
set_option linter.unusedVariables false
namespace Go.Proofs.YtaoocecipacnhaaDoor
open Go.RowKit
theorem rwant_yes (g b cap : Nat) (T L : List Tk) (r : Tk) (hz : GoodT r) (s : ByteArray) (hs : sgB r s = true) (hL : L ≠ []) (d : Nat) (w : World) (h : RS g b cap T w (r :: L) d) :
    Calls Tryd.prog 39 #[.pointer (some ⟨g, 0, none⟩), .string s] w fun e w' => e = zr (.tuple #[]) ∧ Kp g w w' ∧ RS g b cap T w' L d := by
  obtain ⟨⟨pre, a0, e, hb⟩, htr, hne, hle, hmost⟩ := id h
  have c0 := hb.c 0 rfl
  have hg := hb.1
  have hbl := htr.1
  obtain ⟨t0, t1, t2⟩ := htr.at e
  unfold maxLen at hmost
  have hlen : T.length = pre.length + L.length + 1 := by rw [e]; simp <;> omega
  have HH : Hid (RS g b cap T w (r :: L) d) := h
  clear hb htr e h
  have HSg := rsign_any g b cap T L r hz s (fun _ => hL) d w HH.out
  rw [hs, if_pos rfl] at HSg
  have HSi : Hid _ := HSg
  clear HSg
  go_enter Tryd.func39, Tryd.ntmps39
  go_wp2_with fail
  refine Calls.mono HSi.out ?_
  rintro e W ⟨rfl, hk, hr⟩
  have HK : Hid (Kp g w W) := hk
  have HR : Hid (RS g b cap T W L d) := hr
  clear hk hr
  go_wp2
  refine bodyPost_end (v := .tuple #[]) (by simp [results, Tryd.results39, go_sem]) rfl ⟨rfl, HK.out, HR.out⟩
theorem rwant_no (g b lo cap : Nat) (T L : List Tk) (r : Tk) (hz : GoodT r) (s : ByteArray) (hs : sgB r s = false) (d : Nat) (hd : d ≤ 100) (w : World) (h : RS g b cap T w (r :: L) d) :
    Calls Tryd.prog 39 #[.pointer (some ⟨g, 0, none⟩), .string s] w fun e w' => e = zr (.tuple #[]) ∧ Kp g w w' ∧ RF g b lo w' r.2.2 30 := by
  obtain ⟨⟨pre, a0, e, hb⟩, htr, hne, hle, hmost⟩ := id h
  have c0 := hb.c 0 rfl
  have hg := hb.1
  have hbl := htr.1
  obtain ⟨t0, t1, t2⟩ := htr.at e
  unfold maxLen at hmost
  have hlen : T.length = pre.length + L.length + 1 := by rw [e]; simp <;> omega
  have HH : Hid (RS g b cap T w (r :: L) d) := h
  clear hb htr e h
  have HSg := rsign_any g b cap T L r hz s (fun q => by rw [hs] at q; cases q) d w HH.out
  rw [hs, if_neg (by simp)] at HSg
  have HSi : Hid _ := HSg
  clear HSg
  go_enter Tryd.func39, Tryd.ntmps39
  go_wp2_with fail
  refine Calls.mono HSi.out ?_
  rintro e W ⟨rfl, hk, hr⟩
  have HK : Hid (Kp g w W) := hk
  have HF : Hid _ := rfail_ok g b lo cap T L r hz.size d hd 30 r.2.2 W hr
  clear hk hr
  go_wp2_with fail
  refine Calls.mono HF.out ?_
  rintro e W2 ⟨rfl, hk, hr⟩
  have HK2 : Hid (Kp g w W2) := HK.out.trans hk
  have HR : Hid (RF g b lo W2 r.2.2 30) := hr
  clear hk hr
  go_wp2
  refine bodyPost_end (v := .tuple #[]) (by simp [results, Tryd.results39, go_sem]) rfl ⟨rfl, HK2.out, HR.out⟩
theorem rwant_bad (g b lo : Nat) (s : ByteArray) (a e : Int) (he : e ≠ 0) (w : World) (h : RF g b lo w a e) :
    Calls Tryd.prog 39 #[.pointer (some ⟨g, 0, none⟩), .string s] w fun e' w' => e' = zr (.tuple #[]) ∧ Kp g w w' ∧ RF g b lo w' a e := by
  obtain ⟨c, o, n, m, D, k, z, t, -, hb, h2, h3, h4, h5, h6, h7, hD, t0, t1, t2⟩ := id h
  have c0 := hb.c 0 rfl
  have hg := hb.1
  have hnI : (1 : Int) ≤ (n : Int) := by omega
  have hnmI : (n : Int) ≤ (m : Int) := by omega
  unfold maxLen at h4
  have hmI : (m : Int) ≤ 9223372036854775807 := by omega
  have HSi : Hid _ := rsign_bad g b lo s a e he w h
  have HE : Hid (e ≠ 0) := he
  clear hb h he
  go_enter Tryd.func39, Tryd.ntmps39
  go_wp2_with fail
  refine Calls.mono HSi.out ?_
  rintro e' W ⟨rfl, hk, hr⟩
  have HK : Hid (Kp g w W) := hk
  have HF : Hid _ := rfail_no g b lo 30 z a e HE.out W hr
  clear hk hr
  go_wp2_with fail
  refine Calls.mono HF.out ?_
  rintro e' W2 ⟨rfl, hk, hr⟩
  have HK2 : Hid (Kp g w W2) := HK.out.trans hk
  have HR : Hid (RF g b lo W2 a e) := hr
  clear hk hr
  go_wp2
  refine bodyPost_end (v := .tuple #[]) (by simp [results, Tryd.results39, go_sem]) rfl ⟨rfl, HK2.out, HR.out⟩
def sgW : Nat → List ByteArray
  | 0 => [orB]
  | 1 => [andB]
  | 3 => [b1 61, b2 60 62, b1 60, b2 60 61, b1 62, b2 62 61]
  | 4 => [b1 43, b1 45]
  | 5 => [b1 42, b1 47, b1 37]
  | _ => [atB]
def sTx (L : List ByteArray) : List Value := L.map Value.string
theorem rsigns_any (lev : Nat) (hl : lev = 0 ∨ lev = 1 ∨ lev = 3 ∨ lev = 4 ∨ lev = 5 ∨ lev = 7) (w : World) :
    Calls Tryd.prog 38 #[vi ki (lev : Int)] w fun e w' => e = zr (.slice (some ⟨w.heap.size, 0, none⟩) (sgW lev).length (sgW lev).length) ∧ w' = w.alloc (.cells (sTx (sgW lev)).toArray 9) := by
  rcases hl with rfl | rfl | rfl | rfl | rfl | rfl <;>
    (go_enter Tryd.func38, Tryd.ntmps38
     go_wp2
     go_ret
     exact ⟨rfl, rfl⟩)
def rsW : List ByteArray := [trueB, falseB, notB, andB, orB, atB, timeB, zoneB]
def tyW : List ByteArray := [dateB, stampB, tzB, ivB]
theorem known_any {s : ByteArray} : ∀ (l : List ByteArray) (i : Nat), (∀ t ∈ l, lowB t = t) → (decide (0 ≤ findF (fun t => sameB s t) i l) = l.any (fun t => decide (lowB s = t)))
  | [], i, h => rfl
  | t :: l, i, h => by
    rw [findF]
    have ht := h t List.mem_cons_self
    by_cases e : lowB s = t
    · rw [if_pos (by unfold sameB; simp [ht, e])]
      simp [e]
    · rw [if_neg (by unfold sameB; simp [ht, e]), known_any l (i + 1) (fun t ht => h t (List.mem_cons_of_mem _ ht))]
      simp [e]
theorem rsv_known (s : ByteArray) : decide (0 ≤ knownB s rsW) = rsvd (lowB s) := by
  unfold knownB
  rw [known_any rsW 0 (by intro t ht; unfold rsW at ht; simp only [List.mem_cons, List.not_mem_nil, or_false] at ht; rcases ht with rfl | rfl | rfl | rfl | rfl | rfl | rfl | rfl <;> decide +kernel)]
  simp [rsW, rsvd, Bool.or_assoc]
theorem typ_known (s : ByteArray) : decide (0 ≤ knownB s tyW) = typB (lowB s) := by
  unfold knownB
  rw [known_any tyW 0 (by intro t ht; unfold tyW at ht; simp only [List.mem_cons, List.not_mem_nil, or_false] at ht; rcases ht with rfl | rfl | rfl | rfl <;> decide +kernel)]
  simp [tyW, typB, Bool.or_assoc]
theorem txt_new (w : World) (L : List ByteArray) : TxtA (w.alloc (.cells (sTx L).toArray 9)) ⟨w.heap.size, 0, none⟩ L := ⟨trivial, fun j t ht => by
  rw [show (⟨w.heap.size, 0, none⟩ : Addr).add j = ⟨w.heap.size, j, none⟩ from by rw [Addr.add_lit]; simp]
  exact (Bx.new w (sTx L) 9).c j (by unfold sTx; simp [ht])⟩
theorem rreserved_any (s : ByteArray) (hs : s.size ≤ 140737488351232) (w : World) :
    Calls Tryd.prog 59 #[.string s] w fun e w' => e = zr (.bool (rsvd (lowB s))) ∧ Below w.heap.size w w' := by
  have HK := rknownA_any s rsW ⟨w.heap.size, 0, none⟩ 8 (w.alloc (.cells (sTx rsW).toArray 9)) hs (by intro j t ht; have := List.mem_of_getElem? ht; unfold rsW at this; simp only [List.mem_cons, List.not_mem_nil, or_false] at this; rcases this with rfl | rfl | rfl | rfl | rfl | rfl | rfl | rfl <;> decide) (by decide) (by decide) (txt_new w rsW)
  rw [← rsv_known]
  obtain ⟨G, hG⟩ : ∃ G, knownB s rsW = G := ⟨_, rfl⟩
  rw [hG] at HK ⊢
  have HKK : Hid _ := HK
  clear HK hG
  go_enter Tryd.func59, Tryd.ntmps59
  go_wp2_with fail
  refine Calls.mono HKK.out ?_
  rintro e W ⟨rfl, hk⟩
  have HB : Hid (Below w.heap.size w W) := ((Below.refl _ w).alloc (Nat.le_refl _) _).trans (hk.mono (by simp))
  clear hk HKK
  go_wp2
  go_ret
  exact ⟨rfl, HB.out⟩
theorem gen_anyR {P : Program} {md : Region.Mode} {ops : Array Oper} {Q : Exit → Act → World → Prop} {S : World → Prop} {fuel : Nat} {listed : Array Bool} {a : Act} {w1 : World} (T : World → Prop) (h : T w1)
  (k : ∀ w2, T w2 → wpAnyH P md ops Q S fuel listed a w2) : wpAnyH P md ops Q S fuel listed a w1 := k _ h
def Z4 : List Value := [vi ki 0, .string ⟨#[]⟩, .slice none 0 0, vi ki 0]
def ROut (g b lo cap : Nat) (T : List Tk) (X : Nat → Prop) (w' : World) (d : Nat) (e : Ending) : PR → Prop
 | .ok n l1 => ∃ L1, l1 = mL L1 ∧ RS g b cap T w' L1 d ∧ EndL (mL L1) ∧ ∃ k t sq sn sc a, e = zr (.agg #[vi ki k, .string t, .slice sq sn sc, vi ki a]) ∧ NdAt X w' n [vi ki k, .string t, .slice sq sn sc, vi ki a]
 | .no a er => er ≠ 0 ∧ RF g b lo w' a er ∧ ∃ k t sq sn sc z, e = zr (.agg #[vi ki k, .string t, .slice sq sn sc, vi ki z])
def RLv (g b cap : Nat) (T : List Tk) (lev N : Nat) : Prop :=
 ∀ (w : World) (L : List Tk) (d f : Nat), RS g b cap T w L d → EndL (mL L) → d ≤ 20 → L.length ≤ N → need (.lv lev) (mL L) ≤ f →
  Calls Tryd.prog 18 #[.pointer (some ⟨g, 0, none⟩), vi ki (lev : Int)] w fun e w' => Kp g w w' ∧ ROut g b w.heap.size cap T (fun c => w.heap.size ≤ c) w' d e (par f (.lv lev) d (mL L))
theorem mL_len (L : List Tk) : (mL L).length = L.length := by unfold mL; simp
theorem mL_none {L : List Tk} (h : EndL (mL L)) : ∃ r L', L = r :: L' := by
 cases L with
 | nil => exact h.elim
 | cons r L => exact ⟨r, L, rfl⟩
theorem RS.good {g b cap : Nat} {T : List Tk} {w : World} {r : Tk} {L : List Tk} {d : Nat} (h : RS g b cap T w (r :: L) d) (hG : ∀ x ∈ T, GoodT x) : GoodT r := by
 obtain ⟨pre, _, e, _⟩ := h.bx
 exact hG r (by rw [e]; simp)
theorem RS.drew {g b cap : Nat} {T : List Tk} {w : World} {L : List Tk} {d : Nat} (h : RS g b cap T w L d) : RS g b cap T w.drew L d := h.keep (Nat.le_refl _) (fun _ _ => rfl)
theorem NdAt.drewR {X : Nat → Prop} {w : World} {n : Nd} {cs : List Value} (h : NdAt X w n cs) : NdAt X w.drew n cs := NdAt.keep (w := w) (W := w.drew) (Nat.le_refl _) (fun b hb _ => ⟨hb, rfl⟩) _ _ h
theorem RF.off {g b lo : Nat} {w W : World} {a e : Int} (h : RF g b lo w a e) {r : Nat} (k : ∀ c, c < w.heap.size → c ≠ r → W.heap[c]? = w.heap[c]?) (hz : w.heap.size ≤ W.heap.size) (h1 : g ≠ r) (h2 : b ≠ r) (h3 : r < lo) : RF g b lo W a e := by
 obtain ⟨c, o, n, m, D, kk, z, t, h0, hb, i2, i3, i4, i5, i6, i7, hD, i8, i9, i10⟩ := h
 have q := k c i6 (by omega)
 have qg := k g hb.1 h1
 exact ⟨c, o, n, m, D, kk, z, t, h0, ⟨Nat.lt_of_lt_of_le hb.1 hz, fun i v hv => ⟨(World.cell?_of_block (w := w) (a := ⟨g, i, none⟩) qg).trans (hb.2 i v hv).1, (World.frozen?_of_block (w := w) (a := ⟨g, i, none⟩) qg).trans (hb.2 i v hv).2⟩⟩, i2, i3, i4, i5, Nat.lt_of_lt_of_le i6 hz, i7, hD,
  (World.cell?_of_block (w := w) (a := ⟨c, o, none⟩) q).trans i8, (World.cell?_of_block (w := w) (a := ⟨c, o + 1, none⟩) q).trans i9, (World.cell?_of_block (w := w) (a := ⟨c, o + 2, none⟩) q).trans i10⟩
def CR (g b cap : Nat) (T : List Tk) (w : World) (B d : Nat) (L : List Tk) (n : Nd) (c0 c1 c2 c3 : Value) (V : World) : Prop :=
 Kp g w V ∧ Bx V w.heap.size [vi ki 0, .string ⟨#[]⟩, .slice none 0 0, vi ki 0] ∧ Bx V B [c0, c1, c2, c3] ∧ RS g b cap T V L d ∧ NdAt (fun c => w.heap.size + 1 ≤ c ∧ c ≠ B) V n [c0, c1, c2, c3] ∧ w.heap.size + 1 ≤ B ∧ EndL (mL L)
theorem CR.drew {g b cap : Nat} {T : List Tk} {w : World} {B d : Nat} {L : List Tk} {n : Nd} {c0 c1 c2 c3 : Value} {V : World} (h : CR g b cap T w B d L n c0 c1 c2 c3 V) : CR g b cap T w B d L n c0 c1 c2 c3 V.drew :=
 ⟨h.1.drew, h.2.1, h.2.2.1, h.2.2.2.1.drew, h.2.2.2.2.1.drewR, h.2.2.2.2.2⟩
theorem CR.kp {g b cap : Nat} {T : List Tk} {w : World} {B d : Nat} {L L' : List Tk} {n : Nd} {c0 c1 c2 c3 : Value} {V V' : World} (h : CR g b cap T w B d L n c0 c1 c2 c3 V) (hg : g < w.heap.size) (hk : Kp g V V') (hp : RS g b cap T V' L' d) (he : EndL (mL L')) : CR g b cap T w B d L' n c0 c1 c2 c3 V' :=
 ⟨h.1.trans hk, hk.bx h.2.1 (by omega), hk.bx h.2.2.1 (by have := h.2.2.2.2.2.1; omega), hp, h.2.2.2.2.1.kp hk (fun c hc => ⟨hc, by omega⟩), h.2.2.2.2.2.1, he⟩
theorem CR.put {g b cap : Nat} {T : List Tk} {w : World} {B d : Nat} {L L' : List Tk} {n n' : Nd} {c0 c1 c2 c3 d0 d1 d2 d3 : Value} {V V' : World} (h : CR g b cap T w B d L n c0 c1 c2 c3 V) (hg : g < w.heap.size) (hbl : b < w.heap.size) (hk : Kp g V V') (hp : RS g b cap T V' L' d) (he : EndL (mL L'))
  (hn : NdAt (fun c => (w.heap.size + 1 ≤ c ∧ c ≠ B) ∨ V.heap.size ≤ c) V' n' [d0, d1, d2, d3]) : CR g b cap T w B d L' n' d0 d1 d2 d3 (V'.setCells B 0 [d0, d1, d2, d3]) := by
 have hB := h.2.2.1.1
 have hB2 := h.2.2.2.2.2.1
 have hB' := hk.bx h.2.2.1 (by omega)
 obtain ⟨q1, q2, q3, q4⟩ := fin4 [] d0 d1 d2 d3 (h.1.trans hk) (by omega) hB'
 have hz := h.1.size
 have hz2 := h.2.1.1
 exact ⟨q1, (hk.bx h.2.1 (by omega)).setOther (by omega) _, q2, hp.off q3 q4 (by omega) (by omega), hn.off q3 q4 (fun c hc => ⟨by omega, by omega⟩), hB2, he⟩
end Go.Proofs.YtaoocecipacnhaaDoor
