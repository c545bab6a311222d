import Derived.Test.YtaoocecipacnhaaDoorWz
import Derived.Test.YtaoocecipacnhaaDoorW3
import Derived.Test.YtaoocecipacnhaaDoorW19
import Derived.WalkKit
import Derived.ProofKit
import Derived.Deep.Cut
import Derived.Deep.CutRange
import Derived.Deep.DeepCutAuto
import Derived.Test.YtaoocecipacnhaaDoorW15
open Go.Value renaming int → vi
open Go.IntKind renaming i64 → ki
open List renaming setIfInBounds_toArray → zb, set_cons_zero → zc, set_cons_succ → zd
open Go.Act renaming put → za
open Go.Ending renaming returned → zr
set_option maxRecDepth 100000
set_option maxHeartbeats 16000000
set_option linter.unusedVariables false
namespace Go.Proofs.YtaoocecipacnhaaDoor
open Go.RowKit
def mT (r : Tk) : Tk := (if r.1 = 1 then (if r.2.1.data.toList.contains 46 then 2 else 1) else if r.1 = 2 then 4 else if r.1 = 3 then 3 else if r.1 = 4 then 5 else 0, if r.1 = 2 then lowB r.2.1 else r.2.1, r.2.2)
def wrdL : List ByteArray := [orB, andB, notB, atB, timeB, zoneB]
def sgnL : List ByteArray := [b1 61, b2 60 62, b1 60, b2 60 61, b1 62, b2 62 61, b1 43, b1 45, b1 42, b1 47, b1 37, b2 58 58, b1 40, b1 41, b1 44]
structure GoodT (r : Tk) : Prop where
 kind : 1 ≤ r.1 ∧ r.1 ≤ 5
 size : r.2.1.size ≤ 2048
 sign : r.1 = 4 → lowB r.2.1 = r.2.1 ∧ r.2.1 ∉ wrdL
 name : r.1 = 2 → lowB r.2.1 ∉ sgnL
def sgB (r : Tk) (s : ByteArray) : Bool := (decide (r.1 = 4) || decide (r.1 = 2)) && decide (lowB r.2.1 = s)
theorem isT_one (p : Tk) (k : Int) (s : ByteArray) : isT p [(k, s)] = decide (p.1 = k ∧ p.2.1 = s) := by simp [isT]
theorem sg_word {r : Tk} (h : GoodT r) {s : ByteArray} (hs : s ∈ wrdL) : sgB r s = isT (mT r) [(4, s)] := by
 rw [isT_one]
 unfold sgB mT
 by_cases h4 : r.1 = 4
 ·have q := h.sign h4
  have : ¬ r.2.1 = s := fun e => q.2 (e ▸ hs)
  simp [h4, q.1, this]
 ·by_cases h2 : r.1 = 2
  ·simp [h2]
  ·have : ¬ (if r.1 = 1 then (if r.2.1.data.toList.contains 46 then (2 : Int) else 1) else if r.1 = 2 then 4 else if r.1 = 3 then 3 else if r.1 = 4 then 5 else 0) = 4 := by
    rw [if_neg h2, if_neg h4]
    split
    ·split <;> omega
    ·split <;> omega
   simp [h4, h2] at this ⊢
   intro e
   exact absurd e (by simpa [h4, h2] using this)
theorem sg_sign {r : Tk} (h : GoodT r) {s : ByteArray} (hs : s ∈ sgnL) : sgB r s = isT (mT r) [(5, s)] := by
 rw [isT_one]
 unfold sgB mT
 by_cases h4 : r.1 = 4
 ·have q := h.sign h4
  simp [h4, q.1]
 ·by_cases h2 : r.1 = 2
  ·have q := h.name h2
   have : ¬ lowB r.2.1 = s := fun e => q (e ▸ hs)
   simp [h2, this]
  ·have : ¬ (if r.1 = 1 then (if r.2.1.data.toList.contains 46 then (2 : Int) else 1) else if r.1 = 2 then 4 else if r.1 = 3 then 3 else if r.1 = 4 then 5 else 0) = 5 := by
    rw [if_neg h2, if_neg h4]
    split
    ·split <;> omega
    ·split <;> omega
   simp [h4, h2] at this ⊢
   intro e
   exact absurd e (by simpa [h4, h2] using this)
def mL (L : List Tk) : List Tk := L.map mT
theorem mL_cons (r : Tk) (L : List Tk) : mL (r :: L) = mT r :: mL L := rfl
theorem mT_end {r : Tk} (h : GoodT r) : (mT r).1 = 0 ↔ r.1 = 5 := by
 unfold mT
 obtain ⟨h1, h2⟩ := h.kind
 by_cases e1 : r.1 = 1
 ·simp only [e1, if_true]; split <;> omega
 by_cases e2 : r.1 = 2
 ·simp [e2]
 by_cases e3 : r.1 = 3
 ·simp [e3]
 by_cases e4 : r.1 = 4
 ·simp [e4]
 have e5 : r.1 = 5 := by omega
 simp [e5]
structure RS (g b cap : Nat) (T : List Tk) (w : World) (L : List Tk) (d : Nat) : Prop where
 bx : ∃ (pre : List Tk) (a : Int), T = pre ++ L ∧ Bx w g [.slice (some ⟨b, pre.length * 3, none⟩) L.length (cap - pre.length), vi ki (d : Int), vi ki 0, vi ki a]
 tr : TR w b T
 ne : b ≠ g
 le : T.length ≤ cap
 most : cap ≤ maxLen
def RF (g b lo : Nat) (w : World) (a e : Int) : Prop := ∃ (c o n m : Nat) (D k z : Int) (t : ByteArray), (c = b ∨ lo ≤ c) ∧ Bx w g [.slice (some ⟨c, o, none⟩) n m, vi ki D, vi ki e, vi ki a] ∧ 1 ≤ n ∧ n ≤ m ∧ m ≤ maxLen ∧ c ≠ g ∧ c < w.heap.size ∧ t.size ≤ 2048 ∧ True ∧
 w.cell? ⟨c, o, none⟩ = some (vi ki k) ∧ w.cell? ⟨c, o + 1, none⟩ = some (.string t) ∧ w.cell? ⟨c, o + 2, none⟩ = some (vi ki z)
theorem RS.lt {g b cap : Nat} {T : List Tk} {w : World} {L : List Tk} {d : Nat} (h : RS g b cap T w L d) : g < w.heap.size := by
 obtain ⟨_, _, _, h⟩ := h.bx; exact h.1
theorem RS.keep {g b cap : Nat} {T : List Tk} {w W : World} {L : List Tk} {d : Nat} (h : RS g b cap T w L d) (hs : w.heap.size ≤ W.heap.size) (k : ∀ c, c = g ∨ c = b → W.heap[c]? = w.heap[c]?) : RS g b cap T W L d := by
 obtain ⟨⟨pre, a, h1, h2⟩, h3, h4, h5, h6⟩ := h
 have q := k g (.inl rfl)
 exact ⟨⟨pre, a, h1, Nat.lt_of_lt_of_le h2.1 hs, fun i v hv => ⟨(World.cell?_of_block (w := w) (a := ⟨g, i, none⟩) q).trans (h2.2 i v hv).1, (World.frozen?_of_block (w := w) (a := ⟨g, i, none⟩) q).trans (h2.2 i v hv).2⟩⟩, ⟨Nat.lt_of_lt_of_le h3.1 hs, fun i v hv => (World.cell?_of_block (w := w) (a := ⟨b, i, none⟩) (k b (.inr rfl))).trans (h3.2 i v hv)⟩, h4, h5, h6⟩
theorem RS.below {g b cap : Nat} {T : List Tk} {w W : World} {L : List Tk} {d : Nat} (h : RS g b cap T w L d) (k : Below w.heap.size w W) : RS g b cap T W L d :=
 h.keep k.size fun c hc => k.block c (by rcases hc with rfl | rfl; exact h.lt; exact h.tr.1)
theorem RS.off {g b cap : Nat} {T : List Tk} {w W : World} {L : List Tk} {d : Nat} (h : RS g b cap T w L d) {r : Nat} (k : ∀ c, c < w.heap.size → c ≠ r → W.heap[c]? = w.heap[c]?) (hz : w.heap.size ≤ W.heap.size) (h1 : g ≠ r) (h2 : b ≠ r) : RS g b cap T W L d :=
 h.keep hz fun c hc => by rcases hc with rfl | rfl; exact k _ h.lt h1; exact k _ h.tr.1 h2
theorem RF.lt {g b lo : Nat} {w : World} {a e : Int} (h : RF g b lo w a e) : g < w.heap.size := by obtain ⟨_, _, _, _, _, _, _, _, _, h, _⟩ := h; exact h.1
theorem RF.below {g b lo : Nat} {w W : World} {a e : Int} (h : RF g b lo w a e) (k : Below w.heap.size w W) : RF g b lo W a e := by
 obtain ⟨c, o, n, m, D, kk, z, t, h0, h1, h2, h3, h4, h5, h6, h7, hD, h8, h9, h10⟩ := h
 exact ⟨c, o, n, m, D, kk, z, t, h0, h1.below k, h2, h3, h4, h5, Nat.lt_of_lt_of_le h6 k.size, h7, hD, (k.cell (p := ⟨c, o, none⟩) h6).trans h8, (k.cell (p := ⟨c, o + 1, none⟩) h6).trans h9, (k.cell (p := ⟨c, o + 2, none⟩) h6).trans h10⟩
theorem RF.mono {g b lo lo' : Nat} {w : World} {a e : Int} (h : RF g b lo w a e) (hl : lo' ≤ lo) : RF g b lo' w a e := by
 obtain ⟨c, o, n, m, D, kk, z, t, h0, h1⟩ := h
 exact ⟨c, o, n, m, D, kk, z, t, by omega, h1⟩
theorem RF.of {g b lo cap : Nat} {T pre L : List Tk} {r : Tk} {w w' : World} {D er a : Int} (hD : True) (hr : r.2.1.size ≤ 2048) (ht : TR w b T) (he : T = pre ++ r :: L) (hne : b ≠ g) (hle : T.length ≤ cap) (hm : cap ≤ maxLen) (k : Kp g w w') (hb : Bx w' g [.slice (some ⟨b, pre.length * 3, none⟩) (r :: L).length (cap - pre.length), vi ki D, vi ki er, vi ki a]) : RF g b lo w' a er := by
 obtain ⟨t0, t1, t2⟩ := (ht.kp k hne).at he
 have hlen : T.length = pre.length + (r :: L).length := by rw [he]; simp
 exact ⟨b, pre.length * 3, _, _, D, r.1, r.2.2, r.2.1, .inl rfl, hb, by simp, by omega, by omega, hne, (ht.kp k hne).1, hr, hD, t0, t1, t2⟩
theorem RS.of {g b cap : Nat} {T pre L : List Tk} {w w' : World} {d : Nat} {a : Int} (ht : TR w b T) (he : T = pre ++ L) (hne : b ≠ g) (hle : T.length ≤ cap) (hm : cap ≤ maxLen) (k : Kp g w w') (hb : Bx w' g [.slice (some ⟨b, pre.length * 3, none⟩) L.length (cap - pre.length), vi ki (d : Int), vi ki 0, vi ki a]) : RS g b cap T w' L d :=
 ⟨⟨pre, a, he, hb⟩, ht.kp k hne, hne, hle, hm⟩
theorem RS.next {g b cap : Nat} {T pre L : List Tk} {r : Tk} {w w' : World} {d : Nat} {a : Int} (ht : TR w b T) (he : T = pre ++ r :: L) (hne : b ≠ g) (hle : T.length ≤ cap) (hm : cap ≤ maxLen) (k : Kp g w w') (hb : Bx w' g [.slice (some ⟨b, pre.length * 3 + 3, none⟩) L.length (cap - pre.length - 1), vi ki (d : Int), vi ki 0, vi ki a]) : RS g b cap T w' L d := by
 refine RS.of (pre := pre ++ [r]) ht (by rw [he]; simp) hne hle hm k (a := a) ?_
 rw [show (pre ++ [r]).length * 3 = pre.length * 3 + 3 by simp; omega, show cap - (pre ++ [r]).length = cap - pre.length - 1 by simp; omega]
 exact hb
theorem RS.facts {g b cap : Nat} {T : List Tk} {w : World} {q : Tk} {l : List Tk} {d : Nat} (h : RS g b cap T w (q :: l) d) : ∃ (pre : List Tk) (pa : Int), w.cell? ⟨g, 0, none⟩ = some (.slice (some ⟨b, pre.length * 3, none⟩) (q :: l).length (cap - pre.length)) ∧ w.cell? ⟨g, 1, none⟩ = some (.int .i64 (d : Int)) ∧ w.cell? ⟨g, 2, none⟩ = some (.int .i64 0) ∧ w.frozen? ⟨g, 0, none⟩ = false ∧ w.frozen? ⟨g, 1, none⟩ = false ∧
  w.cell? ⟨b, pre.length * 3, none⟩ = some (.int .i64 q.1) ∧ w.cell? ⟨b, pre.length * 3 + 1, none⟩ = some (.string q.2.1) ∧ w.cell? ⟨b, pre.length * 3 + 2, none⟩ = some (.int .i64 q.2.2) ∧ g < w.heap.size ∧ b < w.heap.size ∧ T.length = pre.length + l.length + 1 ∧ cap ≤ 9223372036854775807 ∧ T.length ≤ cap ∧ b ≠ g ∧ Hid (T = pre ++ q :: l) ∧ Hid (Bx w g [.slice (some ⟨b, pre.length * 3, none⟩) (q :: l).length (cap - pre.length), .int .i64 (d : Int), .int .i64 0, .int .i64 pa]) ∧ Hid (TR w b T) := by
 obtain ⟨⟨pre, pa, he, hbx⟩, htr, hne, hle, hmost⟩ := h
 obtain ⟨t0, t1, t2⟩ := htr.at he
 exact ⟨pre, pa, hbx.c 0 rfl, hbx.c 1 rfl, hbx.c 2 rfl, hbx.f 0 rfl, hbx.f 1 rfl, t0, t1, t2, hbx.1, htr.1, by rw [he]; simp; omega, hmost, hle, hne, he, hbx, htr⟩
theorem rfail_ok (g b lo cap : Nat) (T L : List Tk) (r : Tk) (hr : r.2.1.size ≤ 2048) (d : Nat) (hd : d ≤ 100) (er a : Int) (w : World) (h : RS g b cap T w (r :: L) d) :
  Calls Tryd.prog 19 #[.pointer (some ⟨g, 0, none⟩), vi ki er, vi ki a] w fun e w' => e = zr (.agg #[vi ki 0, .string ⟨#[]⟩, .slice none 0 0, vi ki 0]) ∧ Kp g w w' ∧ RF g b lo w' a er := by
 obtain ⟨⟨pre, a0, e, hb⟩, htr, hne, hle, hmost⟩ := h
 have HB : Hid (Bx w g _) := hb
 have HT : Hid (TR w b T) := htr
 have HE : Hid (T = pre ++ r :: L) := e
 obtain ⟨c0, c1, c2, c3, z0, z1, z2, z3⟩ := hb.cf4
 have hg := hb.1
 have hbl := htr.1
 obtain ⟨t0, t1, t2⟩ := htr.at e
 have HM : Hid (cap ≤ maxLen) := hmost
 unfold maxLen at hmost
 have hlen : T.length = pre.length + L.length + 1 := by rw [e]; simp <;> omega
 clear hb htr e
 go_enter Tryd.func19, Tryd.ntmps19
 go_wp2
 refine bodyPost_ret (v := .agg #[vi ki 0, .string ⟨#[]⟩, .slice none 0 0, vi ki 0]) (by simp [results, Tryd.results19, go_sem]) rfl ⟨rfl, ?_, ?_⟩
 ·exact (((Kp.refl g w).set (.inl rfl) _).set (.inl rfl) _).alloc _
 ·exact RF.of trivial hr HT.out HE.out hne hle HM.out ((((Kp.refl g w).set (p := ⟨g, 2, none⟩) (.inl rfl) _).set (p := ⟨g, 3, none⟩) (.inl rfl) _).alloc _) (((HB.out.set1 2 _ (by simp)).set1 3 _ (by simp)).alloc _)
theorem rfail_no (g b lo : Nat) (er' a' a e : Int) (he : e ≠ 0) (w : World) (h : RF g b lo w a e) :
  Calls Tryd.prog 19 #[.pointer (some ⟨g, 0, none⟩), vi ki er', vi ki a'] w fun e' w' => e' = zr (.agg #[vi ki 0, .string ⟨#[]⟩, .slice none 0 0, vi ki 0]) ∧ Kp g w w' ∧ RF g b lo w' a e := by
 obtain ⟨c, o, n, m, D, k, z, t, -, hb, h2, h3, h4, h5, h6, h7, hD, t0, t1, t2⟩ := id h
 have HF : Hid (RF g b lo w a e) := h
 have c0 := hb.c 0 rfl
 have c1 := hb.c 1 rfl
 have c2 := hb.c 2 rfl
 have c3 := hb.c 3 rfl
 have z0 := hb.f 0 rfl
 have z1 := hb.f 1 rfl
 have hg := hb.1
 have hnI : (1 : Int) ≤ (n : Int) := by omega
 have hnmI : (n : Int) ≤ (m : Int) := by omega
 unfold maxLen at h4
 have hmI : (m : Int) ≤ 9223372036854775807 := by omega
 have he0 : (e == 0) = false := by simp; omega
 clear hb h
 go_enter Tryd.func19, Tryd.ntmps19
 go_wp2
 refine bodyPost_ret (v := .agg #[vi ki 0, .string ⟨#[]⟩, .slice none 0 0, vi ki 0]) (by simp [results, Tryd.results19, go_sem]) rfl ⟨rfl, ?_, ?_⟩
 ·exact (Kp.refl g w).alloc _
 ·exact HF.out.below ((Below.refl _ w).alloc (Nat.le_refl _) _)
theorem rsign_kind (g b cap : Nat) (T L : List Tk) (r : Tk) (s : ByteArray) (hs : sgB r s = false) (h4 : r.1 ≠ 4) (h2 : r.1 ≠ 2) (d : Nat) (w : World) (h : RS g b cap T w (r :: L) d) :
  Calls Tryd.prog 35 #[.pointer (some ⟨g, 0, none⟩), .string s] w fun e w' => e = zr (.bool false) ∧ Kp g w w' ∧ RS g b cap T w' (r :: L) d := by
 have HR : Hid (RS g b cap T w (r :: L) d) := h
 obtain ⟨⟨pre, a0, e, hb⟩, htr, hne, hle, hmost⟩ := h
 have HB : Hid (Bx w g _) := hb
 have HT : Hid (TR w b T) := htr
 have HE : Hid (T = pre ++ r :: L) := e
 obtain ⟨c0, c1, c2, c3, z0, z1, z2, z3⟩ := hb.cf4
 have hg := hb.1
 have hbl := htr.1
 obtain ⟨t0, t1, t2⟩ := htr.at e
 have HM : Hid (cap ≤ maxLen) := hmost
 unfold maxLen at hmost
 have hlen : T.length = pre.length + L.length + 1 := by rw [e]; simp <;> omega
 clear hb htr e
 have g4 : (r.1 == 4) = false := by simpa using h4
 have g2 : (r.1 == 2) = false := by simpa using h2
 clear hs
 go_enter Tryd.func35, Tryd.ntmps35
 go_wp2
 go_ret
 exact ⟨rfl, (Kp.refl g w).alloc _, HR.out.below ((Below.refl _ w).alloc (Nat.le_refl _) _)⟩
theorem rsign_no4 (g b cap : Nat) (T L : List Tk) (r : Tk) (hz : r.2.1.size ≤ 2048) (s : ByteArray) (hs : lowB r.2.1 ≠ s) (h4 : r.1 = 4) (d : Nat) (w : World) (h : RS g b cap T w (r :: L) d) :
  Calls Tryd.prog 35 #[.pointer (some ⟨g, 0, none⟩), .string s] w fun e w' => e = zr (.bool false) ∧ Kp g w w' ∧ RS g b cap T w' (r :: L) d := by
 have HR : Hid (RS g b cap T w (r :: L) d) := h
 obtain ⟨⟨pre, a0, e, hb⟩, htr, hne, hle, hmost⟩ := h
 have HB : Hid (Bx w g _) := hb
 have HT : Hid (TR w b T) := htr
 have HE : Hid (T = pre ++ r :: L) := e
 obtain ⟨c0, c1, c2, c3, z0, z1, z2, z3⟩ := hb.cf4
 have hg := hb.1
 have hbl := htr.1
 obtain ⟨t0, t1, t2⟩ := htr.at e
 have HM : Hid (cap ≤ maxLen) := hmost
 unfold maxLen at hmost
 have hlen : T.length = pre.length + L.length + 1 := by rw [e]; simp <;> omega
 clear hb htr e
 have g4 : (r.1 == 4) = true := by simpa using h4
 have gs : ((lowB r.2.1).toList == s.toList) = false := by rw [toList_eq]; exact decide_eq_false hs
 clear hs
 go_enter Tryd.func35, Tryd.ntmps35
 go_wp2_with fail
 refine (rlower_any r.2.1 (by omega) _).mono ?_
 rintro e W ⟨rfl, hk⟩
 have HK : Hid (Below w.heap.size w W) := ((Below.refl _ w).alloc (Nat.le_refl _) _).trans (hk.mono (by simp))
 clear hk
 go_wp2
 go_ret
 exact ⟨rfl, Kp.of HK.out, HR.out.below HK.out⟩
theorem rsign_yes4 (g b cap : Nat) (T L : List Tk) (r q : Tk) (hz : r.2.1.size ≤ 2048) (s : ByteArray) (hs : lowB r.2.1 = s) (h4 : r.1 = 4) (d : Nat) (w : World) (h : RS g b cap T w (r :: q :: L) d) :
  Calls Tryd.prog 35 #[.pointer (some ⟨g, 0, none⟩), .string s] w fun e w' => e = zr (.bool true) ∧ Kp g w w' ∧ RS g b cap T w' (q :: L) d := by
 obtain ⟨L', hL'⟩ : ∃ L', q :: L = L' := ⟨_, rfl⟩
 have hl1 : 1 ≤ L'.length := by rw [← hL']; simp
 rw [hL'] at h ⊢
 clear hL'
 obtain ⟨⟨pre, a0, e, hb⟩, htr, hne, hle, hmost⟩ := h
 have HB : Hid (Bx w g _) := hb
 have HT : Hid (TR w b T) := htr
 have HE : Hid (T = pre ++ r :: L') := e
 obtain ⟨c0, c1, c2, c3, z0, z1, z2, z3⟩ := hb.cf4
 have hg := hb.1
 have hbl := htr.1
 obtain ⟨t0, t1, t2⟩ := htr.at e
 have HM : Hid (cap ≤ maxLen) := hmost
 unfold maxLen at hmost
 have hlen : T.length = pre.length + L'.length + 1 := by rw [e]; simp <;> omega
 clear hb htr e
 have g4 : (r.1 == 4) = true := by simpa using h4
 have gs : ((lowB r.2.1).toList == s.toList) = true := by rw [toList_eq]; exact decide_eq_true hs
 clear hs
 go_enter Tryd.func35, Tryd.ntmps35
 go_wp2_with fail
 refine (rlower_any r.2.1 (by omega) _).mono ?_
 rintro e W ⟨rfl, hk⟩
 have HK : Hid (Below w.heap.size w W) := ((Below.refl _ w).alloc (Nat.le_refl _) _).trans (hk.mono (by simp))
 clear hk
 have HB2 : Hid (Bx W g _) := HB.out.below HK.out
 have HT2 : Hid (TR W b T) := HT.out.kp (Kp.of (g := g) HK.out) hne
 have HKp : Hid (Kp g w W) := Kp.of HK.out
 have d0 := HB2.out.c 0 rfl
 have y0 := HB2.out.f 0 rfl
 have hg2 := HB2.out.1
 clear HB HT HK c0 c1 c2 c3 z0 z1 z2 z3 t0 t1 t2 hg hbl
 go_wp2
 go_ret
 refine ⟨rfl, HKp.out.set (p := ⟨g, 0, none⟩) (.inl rfl) _, ?_⟩
 exact RS.next HT2.out HE.out hne hle HM.out ((Kp.refl g W).set (p := ⟨g, 0, none⟩) (.inl rfl) _) (HB2.out.set1 0 _ (by simp))
theorem rsign_no2 (g b cap : Nat) (T L : List Tk) (r : Tk) (hz : r.2.1.size ≤ 2048) (s : ByteArray) (hs : lowB r.2.1 ≠ s) (h2 : r.1 = 2) (d : Nat) (w : World) (h : RS g b cap T w (r :: L) d) :
  Calls Tryd.prog 35 #[.pointer (some ⟨g, 0, none⟩), .string s] w fun e w' => e = zr (.bool false) ∧ Kp g w w' ∧ RS g b cap T w' (r :: L) d := by
 have HR : Hid (RS g b cap T w (r :: L) d) := h
 obtain ⟨⟨pre, a0, e, hb⟩, htr, hne, hle, hmost⟩ := h
 have HB : Hid (Bx w g _) := hb
 have HT : Hid (TR w b T) := htr
 have HE : Hid (T = pre ++ r :: L) := e
 obtain ⟨c0, c1, c2, c3, z0, z1, z2, z3⟩ := hb.cf4
 have hg := hb.1
 have hbl := htr.1
 obtain ⟨t0, t1, t2⟩ := htr.at e
 have HM : Hid (cap ≤ maxLen) := hmost
 unfold maxLen at hmost
 have hlen : T.length = pre.length + L.length + 1 := by rw [e]; simp <;> omega
 clear hb htr e
 have g4 : (r.1 == 4) = false := by simp; omega
 have h4 : r.1 ≠ 4 := by omega
 have g2 : (r.1 == 2) = true := by simpa using h2
 have gs : ((lowB r.2.1).toList == s.toList) = false := by rw [toList_eq]; exact decide_eq_false hs
 clear hs
 go_enter Tryd.func35, Tryd.ntmps35
 go_wp2_with fail
 refine (rlower_any r.2.1 (by omega) _).mono ?_
 rintro e W ⟨rfl, hk⟩
 have HK : Hid (Below w.heap.size w W) := ((Below.refl _ w).alloc (Nat.le_refl _) _).trans (hk.mono (by simp))
 clear hk
 go_wp2
 go_ret
 exact ⟨rfl, Kp.of HK.out, HR.out.below HK.out⟩
theorem rsign_yes2 (g b cap : Nat) (T L : List Tk) (r q : Tk) (hz : r.2.1.size ≤ 2048) (s : ByteArray) (hs : lowB r.2.1 = s) (h2 : r.1 = 2) (d : Nat) (w : World) (h : RS g b cap T w (r :: q :: L) d) :
  Calls Tryd.prog 35 #[.pointer (some ⟨g, 0, none⟩), .string s] w fun e w' => e = zr (.bool true) ∧ Kp g w w' ∧ RS g b cap T w' (q :: L) d := by
 obtain ⟨L', hL'⟩ : ∃ L', q :: L = L' := ⟨_, rfl⟩
 have hl1 : 1 ≤ L'.length := by rw [← hL']; simp
 rw [hL'] at h ⊢
 clear hL'
 obtain ⟨⟨pre, a0, e, hb⟩, htr, hne, hle, hmost⟩ := h
 have HB : Hid (Bx w g _) := hb
 have HT : Hid (TR w b T) := htr
 have HE : Hid (T = pre ++ r :: L') := e
 obtain ⟨c0, c1, c2, c3, z0, z1, z2, z3⟩ := hb.cf4
 have hg := hb.1
 have hbl := htr.1
 obtain ⟨t0, t1, t2⟩ := htr.at e
 have HM : Hid (cap ≤ maxLen) := hmost
 unfold maxLen at hmost
 have hlen : T.length = pre.length + L'.length + 1 := by rw [e]; simp <;> omega
 clear hb htr e
 have g4 : (r.1 == 4) = false := by simp; omega
 have h4 : r.1 ≠ 4 := by omega
 have g2 : (r.1 == 2) = true := by simpa using h2
 have gs : ((lowB r.2.1).toList == s.toList) = true := by rw [toList_eq]; exact decide_eq_true hs
 clear hs
 go_enter Tryd.func35, Tryd.ntmps35
 go_wp2_with fail
 refine (rlower_any r.2.1 (by omega) _).mono ?_
 rintro e W ⟨rfl, hk⟩
 have HK : Hid (Below w.heap.size w W) := ((Below.refl _ w).alloc (Nat.le_refl _) _).trans (hk.mono (by simp))
 clear hk
 have HB2 : Hid (Bx W g _) := HB.out.below HK.out
 have HT2 : Hid (TR W b T) := HT.out.kp (Kp.of (g := g) HK.out) hne
 have HKp : Hid (Kp g w W) := Kp.of HK.out
 have d0 := HB2.out.c 0 rfl
 have y0 := HB2.out.f 0 rfl
 have hg2 := HB2.out.1
 clear HB HT HK c0 c1 c2 c3 z0 z1 z2 z3 t0 t1 t2 hg hbl
 go_wp2
 go_ret
 refine ⟨rfl, HKp.out.set (p := ⟨g, 0, none⟩) (.inl rfl) _, ?_⟩
 exact RS.next HT2.out HE.out hne hle HM.out ((Kp.refl g W).set (p := ⟨g, 0, none⟩) (.inl rfl) _) (HB2.out.set1 0 _ (by simp))
theorem rsign_bad (g b lo : Nat) (s : ByteArray) (a e : Int) (he : e ≠ 0) (w : World) (h : RF g b lo w a e) :
  Calls Tryd.prog 35 #[.pointer (some ⟨g, 0, none⟩), .string s] w fun e' w' => e' = zr (.bool false) ∧ Kp g w w' ∧ RF g b lo w' a e := by
 obtain ⟨c, o, n, m, D, k, z, t, -, hb, h2, h3, h4, h5, h6, h7, hD, t0, t1, t2⟩ := id h
 have HF : Hid (RF g b lo w a e) := h
 have c0 := hb.c 0 rfl
 have c1 := hb.c 1 rfl
 have c2 := hb.c 2 rfl
 have c3 := hb.c 3 rfl
 have z0 := hb.f 0 rfl
 have z1 := hb.f 1 rfl
 have hg := hb.1
 have hnI : (1 : Int) ≤ (n : Int) := by omega
 have hnmI : (n : Int) ≤ (m : Int) := by omega
 unfold maxLen at h4
 have hmI : (m : Int) ≤ 9223372036854775807 := by omega
 have he0 : (e == 0) = false := by simp; omega
 clear hb h
 go_enter Tryd.func35, Tryd.ntmps35
 go_wp2
 go_ret
 exact ⟨rfl, (Kp.refl g w).alloc _, HF.out.below ((Below.refl _ w).alloc (Nat.le_refl _) _)⟩
theorem rinner_ok (g b cap : Nat) (T L : List Tk) (r : Tk) (d : Nat) (hd : d < 20) (a : Int) (w : World) (h : RS g b cap T w (r :: L) d) :
  Calls Tryd.prog 36 #[.pointer (some ⟨g, 0, none⟩), vi ki a] w fun e w' => e = zr (.bool true) ∧ Kp g w w' ∧ RS g b cap T w' (r :: L) (d + 1) := by
 obtain ⟨⟨pre, a0, e, hb⟩, htr, hne, hle, hmost⟩ := h
 have HB : Hid (Bx w g _) := hb
 have HT : Hid (TR w b T) := htr
 have HE : Hid (T = pre ++ r :: L) := e
 obtain ⟨c0, c1, c2, c3, z0, z1, z2, z3⟩ := hb.cf4
 have hg := hb.1
 have hbl := htr.1
 obtain ⟨t0, t1, t2⟩ := htr.at e
 have HM : Hid (cap ≤ maxLen) := hmost
 unfold maxLen at hmost
 have hlen : T.length = pre.length + L.length + 1 := by rw [e]; simp <;> omega
 clear hb htr e
 have hdI : (d : Int) < 20 := by omega
 have hd0 : (0 : Int) ≤ (d : Int) := by omega
 have hdw : IntKind.i64.wrap ((d : Int) + 1) = (d : Int) + 1 := by rw [IntKind.wrap_i64]; omega
 go_enter Tryd.func36, Tryd.ntmps36
 go_wp2
 go_ret
 refine ⟨rfl, (Kp.refl g w).set (p := ⟨g, 1, none⟩) (.inl rfl) _, ?_⟩
 exact RS.of (d := d + 1) HT.out HE.out hne hle HM.out ((Kp.refl g w).set (p := ⟨g, 1, none⟩) (.inl rfl) _) (HB.out.set1 1 _ (by simp))
theorem rinner_no (g b lo cap : Nat) (T L : List Tk) (r : Tk) (hr : r.2.1.size ≤ 2048) (a : Int) (w : World) (h : RS g b cap T w (r :: L) 20) :
  Calls Tryd.prog 36 #[.pointer (some ⟨g, 0, none⟩), vi ki a] w fun e w' => e = zr (.bool false) ∧ Kp g w w' ∧ RF g b lo w' a 31 := by
 obtain ⟨d, hd⟩ : ∃ d : Nat, d = 20 := ⟨_, rfl⟩
 obtain ⟨⟨pre, a0, e, hb⟩, htr, hne, hle, hmost⟩ := h
 have HB : Hid (Bx w g _) := hb
 have HT : Hid (TR w b T) := htr
 have HE : Hid (T = pre ++ r :: L) := e
 obtain ⟨c0, c1, c2, c3, z0, z1, z2, z3⟩ := hb.cf4
 have hg := hb.1
 have hbl := htr.1
 obtain ⟨t0, t1, t2⟩ := htr.at e
 have HM : Hid (cap ≤ maxLen) := hmost
 unfold maxLen at hmost
 have hlen : T.length = pre.length + L.length + 1 := by rw [e]; simp <;> omega
 clear hb htr e
 have HS : Hid (RS g b cap T (w.setCell ⟨g, 1, none⟩ (vi ki 21)) (r :: L) 21) := RS.of (d := 21) HT.out HE.out hne hle HM.out ((Kp.refl g w).set (p := ⟨g, 1, none⟩) (.inl rfl) _) (HB.out.set1 1 _ (by simp))
 go_enter Tryd.func36, Tryd.ntmps36
 go_wp2_with fail
 refine (rfail_ok g b lo cap T L r hr 21 (by omega) 31 a _ HS.out).mono ?_
 rintro e W ⟨rfl, hk, hf⟩
 have HF : Hid (RF g b lo W a 31) := hf
 have HK : Hid (Kp g w W) := ((Kp.refl g w).set (p := ⟨g, 1, none⟩) (.inl rfl) _).trans hk
 clear hk
 obtain ⟨_, _, _, _, _, _, _, _, _, hb, _⟩ := hf
 have y2 := hb.c 2 rfl
 have hg2 := hb.1
 clear hb
 go_wp2
 go_ret
 exact ⟨rfl, HK.out, HF.out⟩
theorem rsign_any (g b cap : Nat) (T L : List Tk) (r : Tk) (hz : GoodT r) (s : ByteArray) (hL : sgB r s = true → L ≠ []) (d : Nat) (w : World) (h : RS g b cap T w (r :: L) d) :
  Calls Tryd.prog 35 #[.pointer (some ⟨g, 0, none⟩), .string s] w fun e w' => e = zr (.bool (sgB r s)) ∧ Kp g w w' ∧ RS g b cap T w' (if sgB r s = true then L else r :: L) d := by
 by_cases hs : sgB r s = true
 ·rw [hs, if_pos rfl]
  have hs2 := hs
  unfold sgB at hs2
  simp only [Bool.and_eq_true, Bool.or_eq_true, decide_eq_true_eq] at hs2
  cases L with
  | nil => exact absurd rfl (hL hs)
  | cons q L =>
   rcases hs2.1 with h4 | h2
   ·exact rsign_yes4 g b cap T L r q hz.size s hs2.2 h4 d w h
   ·exact rsign_yes2 g b cap T L r q hz.size s hs2.2 h2 d w h
 ·have hs0 : sgB r s = false := by simpa using hs
  rw [hs0, if_neg (by simp)]
  by_cases h4 : r.1 = 4
  ·exact rsign_no4 g b cap T L r hz.size s (fun e => hs (by unfold sgB; simp [h4, e])) h4 d w h
  by_cases h2 : r.1 = 2
  ·exact rsign_no2 g b cap T L r hz.size s (fun e => hs (by unfold sgB; simp [h2, e])) h2 d w h
  exact rsign_kind g b cap T L r s hs0 h4 h2 d w h
def OneP (s : ByteArray) (p : Prt) : Prop := (∀ j, p.2.1 ≤ j → j < p.2.2 → bk (bt s j) = p.1) ∧ (p.1 = 1 ∨ p.1 = 2 ∨ p.1 = 3) ∧ (p.1 = 3 → p.2.2 = p.2.1 + 1)
def Pk (s : ByteArray) : Nat → List Prt → Nat → Prop
  | a, [], zz => a ≤ zz ∧ zz ≤ s.size ∧ ∀ j, a ≤ j → j < zz → blankN (bt s j) = true
  | a, p :: l, zz => a ≤ p.2.1 ∧ p.2.1 < p.2.2 ∧ p.2.2 ≤ s.size ∧ (∀ j, a ≤ j → j < p.2.1 → blankN (bt s j) = true) ∧ OneP s p ∧ Pk s p.2.2 l zz
theorem Pk_snoc (s : ByteArray) (p : Prt) (zz : Nat) : ∀ (l : List Prt) (a : Nat), Pk s a l p.2.1 → p.2.1 < p.2.2 → p.2.2 ≤ s.size → OneP s p → Pk s p.2.2 [] zz → Pk s a (l ++ [p]) zz
  | [], a, ⟨h1, h2, h3⟩, h4, h5, h6, h7 => ⟨h1, h4, h5, h3, h6, h7⟩
  | q :: l, a, ⟨h1, h2, h3, g4, g5, g6⟩, h4, h5, h6, h7 => ⟨h1, h2, h3, g4, g5, Pk_snoc s p zz l _ g6 h4 h5 h6 h7⟩
theorem Pk_more (s : ByteArray) (zz n : Nat) (hn : n ≤ s.size) (hl : zz ≤ n) (hb : ∀ j, zz ≤ j → j < n → blankN (bt s j) = true) : ∀ (l : List Prt) (a : Nat), Pk s a l zz → Pk s a l n
  | [], a, ⟨h1, h2, h3⟩ => ⟨by omega, hn, fun j h4 h5 => by
      by_cases c : j < zz
      · exact h3 j h4 c
      · exact hb j (by omega) h5⟩
  | p :: l, a, ⟨h1, h2, h3, h4, h5, h6⟩ => ⟨h1, h2, h3, h4, h5, Pk_more s zz n hn hl hb l _ h6⟩
theorem runEnd_all (s : ByteArray) (k : Int) : ∀ (n i j : Nat), s.size ≤ i + n → i ≤ j → j < runEnd s k i → bk (bt s j) = k
  | 0, i, j, h, h1, h2 => by rw [runEnd_stop (by omega)] at h2; omega
  | n + 1, i, j, h, h1, h2 => by
    by_cases c : i < s.size ∧ bk (bt s i) = k
    · rw [runEnd_next c.1 c.2] at h2
      by_cases e : j = i
      · rw [e]; exact c.2
      · exact runEnd_all s k n (i + 1) j (by omega) (by omega) h2
    · rw [runEnd_stop c] at h2; omega
theorem rparts_pk (s : ByteArray) : ∀ (f i : Nat) (l : List Prt), s.size ≤ i + f → i ≤ s.size → Pk s 0 l i → Pk s 0 (rparts s f i l) s.size
  | 0, i, l, h, h1, h2 => by
    obtain rfl : i = s.size := by omega
    exact h2
  | f + 1, i, l, h, h1, h2 => by
    by_cases hp : i < s.size
    · rw [rparts, if_pos hp]
      by_cases z0 : bk (bt s i) = 0
      · rw [if_pos z0]
        exact rparts_pk s f (i + 1) l (by omega) (by omega) (Pk_more s i (i + 1) (by omega) (by omega) (fun j a b => (show j = i by omega) ▸ (bk_blank _).2 z0) l 0 h2)
      · rw [if_neg z0]
        by_cases z3 : bk (bt s i) = 3
        · rw [if_pos z3]
          exact rparts_pk s f (i + 1) _ (by omega) (by omega) (Pk_snoc s (3, i, i + 1) (i + 1) l 0 h2 (by simp) (by simp; omega) ⟨fun j a b => (show j = i by have a' : i ≤ j := a; have b' : j < i + 1 := b; omega) ▸ z3, .inr (.inr rfl), fun _ => rfl⟩ ⟨Nat.le_refl _, by omega, fun j a b => by simp at a b; omega⟩)
        · rw [if_neg z3]
          have hge := runEnd_ge s (bk (bt s i)) s.size (i + 1)
          have hne := runEnd_next (k := bk (bt s i)) hp rfl
          change _ ≤ runEnd s _ _ ∧ (_ → runEnd s _ _ ≤ _) at hge
          have hall := runEnd_all s (bk (bt s i)) s.size i
          have hr := bk_range (bt s i)
          generalize bk (bt s i) = k at *
          rw [hne] at hall ⊢
          exact rparts_pk s f _ _ (by omega) (hge.2 (by omega)) (Pk_snoc s (k, i, runEnd s k (i + 1)) (runEnd s k (i + 1)) l 0 h2 (by simp; omega) (by simp; exact hge.2 (by omega)) ⟨fun j a b => hall j (by omega) a b, by omega, fun z => absurd z z3⟩ ⟨Nat.le_refl _, hge.2 (by omega), fun j a b => by simp at a b; omega⟩)
    · rw [rparts_end _ _ _ _ hp]
      obtain rfl : i = s.size := by omega
      exact h2
theorem rparts_all (s : ByteArray) : Pk s 0 (rparts s s.size 0 []) s.size := rparts_pk s s.size 0 [] (by omega) (by omega) ⟨Nat.le_refl _, Nat.zero_le _, fun j a b => by omega⟩
theorem Pk_at {s : ByteArray} : ∀ (m a zz : Nat) (L : List Prt) (p : Prt), Pk s a L zz → L[m]? = some p → a ≤ p.2.1 ∧ p.2.1 < p.2.2 ∧ p.2.2 ≤ s.size ∧ OneP s p ∧ Pk s p.2.2 (L.drop (m + 1)) zz ∧ ∀ i q, i ≤ m → L[i]? = some q → q.2.1 < p.2.2
  | _, a, zz, [], p, h, e => by simp at e
  | 0, a, zz, x :: L, p, ⟨h1, h2, h3, h4, h5, h6⟩, e => by
    simp at e; subst e
    exact ⟨h1, h2, h3, h5, h6, fun i q hi hq => by obtain rfl : i = 0 := by omega
                                                   simp at hq; subst hq; exact h2⟩
  | m + 1, a, zz, x :: L, p, ⟨h1, h2, h3, h4, h5, h6⟩, e => by
    obtain ⟨g1, g2, g3, g4, g5, g6⟩ := Pk_at m _ zz L p h6 (by simpa using e)
    refine ⟨by omega, g2, g3, g4, g5, fun i q hi hq => ?_⟩
    cases i with
    | zero => simp at hq; subst hq; omega
    | succ i => exact g6 i q (by omega) (by simpa using hq)
def sb (s : ByteArray) (a : Nat) : List UInt8 := s.data.toList.drop a
theorem sb_length (s : ByteArray) (a : Nat) : (sb s a).length = s.size - a := by unfold sb; rw [List.length_drop, sz]
theorem sb_cut (s : ByteArray) (a b : Nat) (h : a ≤ b) : sb s a = (sb s a).take (b - a) ++ sb s b := by
  unfold sb
  have := List.take_append_drop (b - a) (s.data.toList.drop a)
  rw [List.drop_drop, show a + (b - a) = b by omega] at this
  exact this.symm
theorem sb_one (s : ByteArray) (a : Nat) (h : a < s.size) : sb s a = s[a]'h :: sb s (a + 1) := by
  unfold sb
  rw [List.drop_eq_getElem_cons (by rw [sz]; exact h)]
  rfl
theorem ext_bytes (s : ByteArray) (i j : Nat) : (s.extract i j).data.toList = (sb s i).take (j - i) := by
  unfold sb
  rw [ByteArray.data_extract, Array.toList_extract]
theorem take_bytes {s : ByteArray} {P : UInt8 → Prop} {a b : Nat} (h : ∀ j (hj : j < s.size), a ≤ j → j < b → P (s[j]'hj)) : ∀ c ∈ (sb s a).take (b - a), P c := by
  intro c hc
  obtain ⟨j, hj, e⟩ := List.mem_iff_getElem.1 hc
  rw [List.length_take, sb_length] at hj
  have : (sb s a)[j]'(by rw [sb_length]; omega) = c := by rw [← e, List.getElem_take]
  have h2 : c = s[a + j]'(by omega) := by rw [← this]; unfold sb; rw [List.getElem_drop]; rfl
  rw [h2]; exact h (a + j) (by omega) (by omega) (by omega)
theorem bt_at (s : ByteArray) (j : Nat) (h : j < s.size) : bt s j = (s[j]'h).toNat := (bt_get s j h).2.symm
theorem not39 {c : UInt8} (h : c.toNat ≠ 39) : c ≠ 39 := fun e => h (by rw [e]; rfl)
def qdL : List UInt8 → Option (List UInt8 × Nat)
  | [] => none
  | [c] => if c = 39 then some ([], 1) else none
  | c :: d :: l => if c = 39 then (if d = 39 then (qdL l).map (fun x => (39 :: x.1, x.2 + 2)) else some ([], 1)) else (qdL (d :: l)).map (fun x => (c :: x.1, x.2 + 1))
theorem qdL_cons {c : UInt8} (h : c ≠ 39) (l : List UInt8) : qdL (c :: l) = (qdL l).map (fun x => (c :: x.1, x.2 + 1)) := by
  cases l with
  | nil => simp [qdL, h]
  | cons d l => rw [qdL, if_neg h]
theorem qdL_skip (r : List UInt8) : ∀ (g : List UInt8), (∀ c ∈ g, c ≠ 39) → qdL (g ++ r) = (qdL r).map (fun x => (g ++ x.1, x.2 + g.length))
  | [], h => by simp
  | c :: g, h => by
    rw [List.cons_append, qdL_cons (h c (by simp)), qdL_skip r g (fun x hx => h x (by simp [hx]))]
    cases qdL r <;> simp [Nat.add_assoc]
theorem unq_cons {c : UInt8} (h : c ≠ 39) (l : List UInt8) : unq (c :: l) = c :: unq l := by
  cases l with
  | nil => simp [unq]
  | cons d l => rw [unq, if_neg (fun q => h q.1)]
theorem unq_skip (r : List UInt8) : ∀ (g : List UInt8), (∀ c ∈ g, c ≠ 39) → unq (g ++ r) = g ++ unq r
  | [], h => by simp
  | c :: g, h => by rw [List.cons_append, unq_cons (h c (by simp)), unq_skip r g (fun x hx => h x (by simp [hx]))]; rfl
theorem unq_len : ∀ (n : Nat) (l : List UInt8), l.length ≤ n → (unq l).length ≤ l.length
  | _, [], _ => by simp [unq]
  | _, [c], _ => by simp [unq]
  | 0, c :: d :: l, h => by simp at h
  | n + 1, c :: d :: l, h => by
    simp only [List.length_cons] at h
    have h1 := unq_len n l (by omega)
    have h2 := unq_len n (d :: l) (by simp only [List.length_cons]; omega)
    rw [unq]
    simp only [List.length_cons] at h2 ⊢
    split <;> simp only [List.length_cons] <;> omega
abbrev tx (s : ByteArray) (p : Prt) : Tk := (p.1, s.extract p.2.1 p.2.2, (p.2.1 : Int))
theorem texts_cons (s : ByteArray) (p : Prt) (l : List Prt) : texts s (p :: l) = tx s p :: texts s l := rfl
theorem ext_size (s : ByteArray) {i j : Nat} (h : j ≤ s.size) : (s.extract i j).size = j - i := by rw [ByteArray.size_extract]; omega
theorem besT_tx (s : ByteArray) {p q : Prt} (h1 : p.2.1 < p.2.2) (h2 : p.2.2 ≤ s.size) : besT (tx s p) (tx s q) = decide (q.2.1 = p.2.2) := by
  unfold besT
  simp only [ext_size s h2]
  congr 1
  apply propext; omega
theorem one_byte (s : ByteArray) (i : Nat) (h : i < s.size) : s.extract i (i + 1) = ⟨#[s[i]'h]⟩ := by
  apply ByteArray.ext
  apply Array.ext'
  rw [ext_bytes, sb_one s i h]; simp
theorem qt_tx (s : ByteArray) {p : Prt} (h1 : p.2.1 < p.2.2) (h2 : p.2.2 ≤ s.size) (ho : OneP s p) : qt (tx s p) = true ↔ (p.2.2 = p.2.1 + 1 ∧ bt s p.2.1 = 39) := by
  unfold qt
  rw [decide_eq_true_eq]
  constructor
  · intro e
    have e1 : p.2.2 = p.2.1 + 1 := by
      have := congrArg ByteArray.size e
      simp only [ext_size s h2] at this
      have h3 : qB.size = 1 := rfl
      omega
    refine ⟨e1, ?_⟩
    simp only [e1] at e
    rw [one_byte s _ (by omega)] at e
    rw [bt_at s _ (by omega)]
    have := congrArg (fun b : ByteArray => b.data.toList) e
    simp [qB] at this
    rw [this]; rfl
  · rintro ⟨e1, e2⟩
    simp only [e1]
    rw [one_byte s _ (by omega)]
    rw [bt_at s _ (by omega)] at e2
    have : s[p.2.1]'(by omega) = 39 := UInt8.toNat_inj.1 e2
    rw [this]; rfl
theorem no_quote (s : ByteArray) {p : Prt} (h1 : p.2.1 < p.2.2) (h2 : p.2.2 ≤ s.size) (ho : OneP s p) (hq : qt (tx s p) = false) : ∀ c ∈ (sb s p.2.1).take (p.2.2 - p.2.1), c ≠ 39 := by
  refine take_bytes (fun j hj a b => not39 (fun e => ?_))
  have hk := ho.1 j a b
  rw [bt_at s j hj, e] at hk
  have h3 : p.1 = 3 := by rw [← hk]; decide
  have e1 := ho.2.2 h3
  obtain rfl : j = p.2.1 := by omega
  have := (qt_tx s h1 h2 ho).2 ⟨e1, by rw [bt_at s _ hj, e]⟩
  rw [hq] at this; cases this
theorem no_blank (s : ByteArray) {a b : Nat} (h : ∀ j, a ≤ j → j < b → blankN (bt s j) = true) : ∀ c ∈ (sb s a).take (b - a), c ≠ 39 :=
  take_bytes (fun j hj x y => not39 (fun e => by have := h j x y; rw [bt_at s j hj, e] at this; revert this; decide))
theorem take_cut (s : ByteArray) {a b e : Nat} (h1 : a ≤ b) (h2 : b ≤ e) (h3 : b ≤ s.size) : (sb s a).take (e - a) = (sb s a).take (b - a) ++ (sb s b).take (e - b) := by
  rw [sb_cut s a b h1, List.take_append, List.length_take, sb_length, show e - a - min (b - a) (s.size - a) = e - b by omega, List.take_of_length_le (by rw [List.length_take, sb_length]; omega)]
  congr 1
  rw [← sb_cut s a b h1]
theorem toQ_qd (s : ByteArray) : ∀ (n : Nat) (l : List Prt) (a i : Nat), l.length ≤ n → Pk s a l s.size →
    (toQ i (texts s l) = 0 ∧ qdL (sb s a) = none) ∨ (∃ m p, toQ i (texts s l) = i + m + 1 ∧ l[m]? = some p ∧ a + 1 ≤ p.2.2 ∧ qdL (sb s a) = some (unq ((sb s a).take (p.2.2 - 1 - a)), p.2.2 - a))
  | n, [], a, i, hn, h => by
    obtain ⟨h1, h2, h3⟩ := h
    refine .inl ⟨by simp [texts, toQ], ?_⟩
    have q := qdL_skip [] _ (no_blank s h3)
    rw [List.append_nil, List.take_of_length_le (by rw [sb_length]; omega)] at q
    rw [q]; rfl
  | 0, p :: l, a, i, hn, h => by simp at hn
  | n + 1, p :: l, a, i, hn, h => by
    simp only [List.length_cons] at hn
    obtain ⟨h1, h2, h3, h4, h5, h6⟩ := h
    have hb := no_blank s h4
    have e0 := sb_cut s a p.2.1 h1
    have hlen : ((sb s a).take (p.2.1 - a)).length = p.2.1 - a := by rw [List.length_take, sb_length]; omega
    obtain ⟨G, hG⟩ : ∃ G, G = (sb s a).take (p.2.1 - a) := ⟨_, rfl⟩
    rw [← hG] at hb e0 hlen
    have eA : qdL (sb s a) = (qdL (sb s p.2.1)).map (fun x => (G ++ x.1, x.2 + (p.2.1 - a))) := by rw [e0, qdL_skip _ _ hb, hlen]
    cases hq : qt (tx s p) with
    | false =>
      have e1 := sb_cut s p.2.1 p.2.2 (by omega)
      have hc := no_quote s h2 h3 h5 hq
      have hlen2 : ((sb s p.2.1).take (p.2.2 - p.2.1)).length = p.2.2 - p.2.1 := by rw [List.length_take, sb_length]; omega
      obtain ⟨H, hH⟩ : ∃ H, H = (sb s p.2.1).take (p.2.2 - p.2.1) := ⟨_, rfl⟩
      rw [← hH] at hc e1 hlen2
      have eB : qdL (sb s p.2.1) = (qdL (sb s p.2.2)).map (fun x => (H ++ x.1, x.2 + (p.2.2 - p.2.1))) := by rw [e1, qdL_skip _ _ hc, hlen2]
      have eK : (sb s a).take (p.2.2 - a) = G ++ H := by rw [hG, hH]; exact take_cut s h1 (by omega) (by omega)
      have eQ : qdL (sb s a) = (qdL (sb s p.2.2)).map (fun x => ((sb s a).take (p.2.2 - a) ++ x.1, x.2 + (p.2.2 - a))) := by
        rw [eA, eB, eK]
        cases qdL (sb s p.2.2) with
        | none => rfl
        | some x => simp; omega
      have eT : toQ i (texts s (p :: l)) = toQ (i + 1) (texts s l) := by
        rw [texts_cons]
        cases l with
        | nil => simp [texts, toQ, hq]
        | cons q l => rw [texts_cons, toQ, hq]; simp
      rcases toQ_qd s n l p.2.2 (i + 1) (by omega) h6 with ⟨g1, g2⟩ | ⟨m, q, g1, g2, g3, g4⟩
      · exact .inl ⟨by rw [eT, g1], by rw [eQ, g2]; rfl⟩
      · refine .inr ⟨m + 1, q, by rw [eT, g1]; omega, by simpa using g2, by omega, ?_⟩
        rw [eQ, g4]
        have hu : unq ((sb s a).take (q.2.2 - 1 - a)) = (sb s a).take (p.2.2 - a) ++ unq ((sb s p.2.2).take (q.2.2 - 1 - p.2.2)) := by
          rw [take_cut s (show a ≤ p.2.2 by omega) (show p.2.2 ≤ q.2.2 - 1 by omega) h3, unq_skip]
          rw [eK]
          intro c hcc
          rcases List.mem_append.1 hcc with z | z
          · exact hb c z
          · exact hc c z
        rw [hu]
        simp; omega
    | true =>
      obtain ⟨e2, e3⟩ := (qt_tx s h2 h3 h5).1 hq
      rw [bt_at s _ (by omega)] at e3
      have e39 : s[p.2.1]'(by omega) = 39 := UInt8.toNat_inj.1 e3
      have e1 := sb_one s p.2.1 (by omega)
      rw [e39] at e1
      have hend : ∀ r, sb s (p.2.1 + 1) = r → (∀ d r', r = d :: r' → d ≠ 39) → qdL (sb s a) = some (unq ((sb s a).take (p.2.2 - 1 - a)), p.2.2 - a) := by
        intro r hr hd
        have : qdL (39 :: r) = some ([], 1) := by
          cases r with
          | nil => rfl
          | cons d r => rw [qdL, if_pos rfl, if_neg (hd d r rfl)]
        rw [eA, e1, hr, this, e2, show p.2.1 + 1 - 1 - a = p.2.1 - a by omega, ← hG]
        have hu := unq_skip [] _ hb
        rw [List.append_nil] at hu
        rw [hu]; simp [unq]; omega
      cases l with
      | nil =>
        refine .inr ⟨0, p, by simp [texts, toQ, hq], rfl, by omega, hend _ rfl ?_⟩
        intro d r' hr
        obtain ⟨k1, k2, k3⟩ := h6
        have hx : p.2.1 + 1 < s.size := by
          have := congrArg List.length hr
          rw [sb_length] at this; simp at this; omega
        rw [sb_one s _ hx] at hr
        simp at hr
        rw [← hr.1]
        exact not39 (fun z => by have := k3 (p.2.1 + 1) (by omega) hx; rw [bt_at s _ hx, z] at this; revert this; decide)
      | cons q l =>
        obtain ⟨k1, k2, k3, k4, k5, k6⟩ := h6
        have hbes := besT_tx s (q := q) h2 h3
        by_cases hw : besT (tx s p) (tx s q) && qt (tx s q)
        · have hw2 := Bool.and_eq_true_iff.1 hw
          rw [hbes, decide_eq_true_eq] at hw2
          obtain ⟨f2, f3⟩ := (qt_tx s k2 k3 k5).1 hw2.2
          rw [bt_at s _ (by omega)] at f3
          have f39 : s[q.2.1]'(by omega) = 39 := UInt8.toNat_inj.1 f3
          have f1 := sb_one s q.2.1 (by omega)
          rw [f39, hw2.1, e2] at f1
          have eT : toQ i (texts s (p :: q :: l)) = toQ (i + 2) (texts s l) := by rw [texts_cons, texts_cons, toQ, hq, if_pos rfl, if_pos hw]
          have hq2 : q.2.2 = p.2.1 + 1 + 1 := by omega
          have eQ : qdL (sb s a) = (qdL (sb s q.2.2)).map (fun x => (G ++ 39 :: x.1, x.2 + 2 + (p.2.1 - a))) := by
            rw [eA, e1, f1, qdL, if_pos rfl, if_pos rfl, hq2]
            cases qdL (sb s (p.2.1 + 1 + 1)) <;> rfl
          rcases toQ_qd s n l q.2.2 (i + 2) (by simp only [List.length_cons] at hn; omega) k6 with ⟨g1, g2⟩ | ⟨m, r, g1, g2, g3, g4⟩
          · exact .inl ⟨by rw [eT, g1], by rw [eQ, g2]; rfl⟩
          · refine .inr ⟨m + 2, r, by rw [eT, g1]; omega, by simpa using g2, by omega, ?_⟩
            rw [eQ, g4]
            have hu : unq ((sb s a).take (r.2.2 - 1 - a)) = G ++ 39 :: unq ((sb s q.2.2).take (r.2.2 - 1 - q.2.2)) := by
              rw [take_cut s h1 (show p.2.1 ≤ r.2.2 - 1 by omega) (by omega), ← hG, unq_skip _ _ hb]
              congr 1
              rw [e1, f1, show r.2.2 - 1 - p.2.1 = (r.2.2 - 1 - q.2.2) + 1 + 1 by omega, List.take_succ_cons, List.take_succ_cons, unq, if_pos ⟨rfl, rfl⟩, hq2]
            rw [hu]
            simp; omega
        · rw [Bool.not_eq_true] at hw
          have eT : toQ i (texts s (p :: q :: l)) = i + 1 := by rw [texts_cons, texts_cons, toQ, hq, if_pos rfl, hw]; simp
          refine .inr ⟨0, p, by rw [eT], rfl, by omega, hend _ rfl ?_⟩
          intro d r' hr
          have hx : p.2.1 + 1 < s.size := by omega
          rw [sb_one s _ hx] at hr
          simp at hr
          rw [← hr.1]
          refine not39 (fun z => ?_)
          by_cases hqp : q.2.1 = p.2.2
          · rw [hbes, decide_eq_true hqp, Bool.true_and] at hw
            have h39 : bk (bt s q.2.1) = q.1 := k5.1 q.2.1 (Nat.le_refl _) k2
            have hb1 : bt s q.2.1 = 39 := by rw [hqp, e2, bt_at s _ hx, z]
            rw [hb1] at h39
            have h3' : q.1 = 3 := by rw [← h39]; decide
            have := (qt_tx s k2 k3 k5).2 ⟨k5.2.2 h3', hb1⟩
            rw [hw] at this; cases this
          · have := k4 (p.2.1 + 1) (by omega) (by omega)
            rw [bt_at s _ hx, z] at this; revert this; decide
end Go.Proofs.YtaoocecipacnhaaDoor
