/- The reference's parser: tokens, its state; fail, sign, want, inner. -/
import Derived.Test.YtaoocecipacnhaaDoorExBq
import Derived.Test.YtaoocecipacnhaaDoorWdPq
import Derived.WalkKit
import Derived.ProofKit
import Derived.Deep.Cut
import Derived.Deep.CutRange
import Derived.Deep.DeepCutAuto
namespace Go.Proofs.YtaoocecipacnhaaDoor
open Go.RowKit
set_option linter.unusedVariables false

/-- a token of the reference (1 digits, 2 a name, 3 a text, 4 a sign, 5 the end) as one of the grammar's. -/
def mT (r : Tk) : Tk := (if r.1 = 1 then (if r.2.1.data.toList.contains 46 then 2 else 1) else if r.1 = 2 then 4 else if r.1 = 3 then 3 else if r.1 = 4 then 5 else 0, if r.1 = 2 then lowB r.2.1 else r.2.1, r.2.2)
def wrdL : List ByteArray := [orB, andB, notB, atB, timeB, zoneB]
def sgnL : List ByteArray := [b1 61, b2 60 62, b1 60, b2 60 61, b1 62, b2 62 61, b1 43, b1 45, b1 42, b1 47, b1 37, b2 58 58, b1 40, b1 41, b1 44]
structure GoodT (r : Tk) : Prop where
  kind : 1 ≤ r.1 ∧ r.1 ≤ 5
  size : r.2.1.size ≤ 2048
  sign : r.1 = 4 → lowB r.2.1 = r.2.1 ∧ r.2.1 ∉ wrdL
  name : r.1 = 2 → lowB r.2.1 ∉ sgnL
/-- the reference's test for a sign or a word. -/
def sgB (r : Tk) (s : ByteArray) : Bool := (decide (r.1 = 4) || decide (r.1 = 2)) && decide (lowB r.2.1 = s)
theorem isT_one (p : Tk) (k : Int) (s : ByteArray) : isT p [(k, s)] = decide (p.1 = k ∧ p.2.1 = s) := by simp [isT]
theorem sg_word {r : Tk} (h : GoodT r) {s : ByteArray} (hs : s ∈ wrdL) : sgB r s = isT (mT r) [(4, s)] := by
  rw [isT_one]
  unfold sgB mT
  by_cases h4 : r.1 = 4
  · have q := h.sign h4
    have : ¬ r.2.1 = s := fun e => q.2 (e ▸ hs)
    simp [h4, q.1, this]
  · by_cases h2 : r.1 = 2
    · simp [h2]
    · have : ¬ (if r.1 = 1 then (if r.2.1.data.toList.contains 46 then (2 : Int) else 1) else if r.1 = 2 then 4 else if r.1 = 3 then 3 else if r.1 = 4 then 5 else 0) = 4 := by
        rw [if_neg h2, if_neg h4]
        split
        · split <;> omega
        · split <;> omega
      simp [h4, h2] at this ⊢
      intro e
      exact absurd e (by simpa [h4, h2] using this)
theorem sg_sign {r : Tk} (h : GoodT r) {s : ByteArray} (hs : s ∈ sgnL) : sgB r s = isT (mT r) [(5, s)] := by
  rw [isT_one]
  unfold sgB mT
  by_cases h4 : r.1 = 4
  · have q := h.sign h4
    simp [h4, q.1]
  · by_cases h2 : r.1 = 2
    · have q := h.name h2
      have : ¬ lowB r.2.1 = s := fun e => q (e ▸ hs)
      simp [h2, this]
    · have : ¬ (if r.1 = 1 then (if r.2.1.data.toList.contains 46 then (2 : Int) else 1) else if r.1 = 2 then 4 else if r.1 = 3 then 3 else if r.1 = 4 then 5 else 0) = 5 := by
        rw [if_neg h2, if_neg h4]
        split
        · split <;> omega
        · split <;> omega
      simp [h4, h2] at this ⊢
      intro e
      exact absurd e (by simpa [h4, h2] using this)
/-- the tokens of the grammar. -/
def mL (L : List Tk) : List Tk := L.map mT
theorem mL_cons (r : Tk) (L : List Tk) : mL (r :: L) = mT r :: mL L := rfl
theorem mT_end {r : Tk} (h : GoodT r) : (mT r).1 = 0 ↔ r.1 = 5 := by
  unfold mT
  obtain ⟨h1, h2⟩ := h.kind
  by_cases e1 : r.1 = 1
  · simp only [e1, if_true]; split <;> omega
  by_cases e2 : r.1 = 2
  · simp [e2]
  by_cases e3 : r.1 = 3
  · simp [e3]
  by_cases e4 : r.1 = 4
  · simp [e4]
  have e5 : r.1 = 5 := by omega
  simp [e5]

/-- the reference's parser in block g: tokens L of T are left, so deep it is. -/
structure RS (g b cap : Nat) (T : List Tk) (w : World) (L : List Tk) (d : Nat) : Prop where
  bx : ∃ (pre : List Tk) (a : Int), T = pre ++ L ∧ Bx w g [.slice (some ⟨b, pre.length * 3, none⟩) L.length (cap - pre.length), .int .i64 (d : Int), .int .i64 0, .int .i64 a]
  tr : TR w b T
  ne : b ≠ g
  le : T.length ≤ cap
  most : cap ≤ maxLen
/-- it has failed; there is still a token. -/
def RF (g b lo : Nat) (w : World) (a e : Int) : Prop := ∃ (c o n m : Nat) (D k z : Int) (t : ByteArray), (c = b ∨ lo ≤ c) ∧ Bx w g [.slice (some ⟨c, o, none⟩) n m, .int .i64 D, .int .i64 e, .int .i64 a] ∧ 1 ≤ n ∧ n ≤ m ∧ m ≤ maxLen ∧ c ≠ g ∧ c < w.heap.size ∧ t.size ≤ 2048 ∧ True ∧
  w.cell? ⟨c, o, none⟩ = some (.int .i64 k) ∧ w.cell? ⟨c, o + 1, none⟩ = some (.string t) ∧ w.cell? ⟨c, o + 2, none⟩ = some (.int .i64 z)
theorem RS.lt {g b cap : Nat} {T : List Tk} {w : World} {L : List Tk} {d : Nat} (h : RS g b cap T w L d) : g < w.heap.size := by
  obtain ⟨_, _, _, h⟩ := h.bx; exact h.1
theorem RS.keep {g b cap : Nat} {T : List Tk} {w W : World} {L : List Tk} {d : Nat} (h : RS g b cap T w L d) (hs : w.heap.size ≤ W.heap.size) (k : ∀ c, c = g ∨ c = b → W.heap[c]? = w.heap[c]?) : RS g b cap T W L d := by
  obtain ⟨⟨pre, a, h1, h2⟩, h3, h4, h5, h6⟩ := h
  have q := k g (.inl rfl)
  exact ⟨⟨pre, a, h1, Nat.lt_of_lt_of_le h2.1 hs, fun i v hv => ⟨(World.cell?_of_block (w := w) (a := ⟨g, i, none⟩) q).trans (h2.2 i v hv).1, (World.frozen?_of_block (w := w) (a := ⟨g, i, none⟩) q).trans (h2.2 i v hv).2⟩⟩, ⟨Nat.lt_of_lt_of_le h3.1 hs, fun i v hv => (World.cell?_of_block (w := w) (a := ⟨b, i, none⟩) (k b (.inr rfl))).trans (h3.2 i v hv)⟩, h4, h5, h6⟩
theorem RS.below {g b cap : Nat} {T : List Tk} {w W : World} {L : List Tk} {d : Nat} (h : RS g b cap T w L d) (k : Below w.heap.size w W) : RS g b cap T W L d :=
  h.keep k.size fun c hc => k.block c (by rcases hc with rfl | rfl; exact h.lt; exact h.tr.1)
theorem RS.off {g b cap : Nat} {T : List Tk} {w W : World} {L : List Tk} {d : Nat} (h : RS g b cap T w L d) {r : Nat} (k : ∀ c, c < w.heap.size → c ≠ r → W.heap[c]? = w.heap[c]?) (hz : w.heap.size ≤ W.heap.size) (h1 : g ≠ r) (h2 : b ≠ r) : RS g b cap T W L d :=
  h.keep hz fun c hc => by rcases hc with rfl | rfl; exact k _ h.lt h1; exact k _ h.tr.1 h2
theorem RF.lt {g b lo : Nat} {w : World} {a e : Int} (h : RF g b lo w a e) : g < w.heap.size := by obtain ⟨_, _, _, _, _, _, _, _, _, h, _⟩ := h; exact h.1
theorem RF.below {g b lo : Nat} {w W : World} {a e : Int} (h : RF g b lo w a e) (k : Below w.heap.size w W) : RF g b lo W a e := by
  obtain ⟨c, o, n, m, D, kk, z, t, h0, h1, h2, h3, h4, h5, h6, h7, hD, h8, h9, h10⟩ := h
  exact ⟨c, o, n, m, D, kk, z, t, h0, h1.below k, h2, h3, h4, h5, Nat.lt_of_lt_of_le h6 k.size, h7, hD, (k.cell (p := ⟨c, o, none⟩) h6).trans h8, (k.cell (p := ⟨c, o + 1, none⟩) h6).trans h9, (k.cell (p := ⟨c, o + 2, none⟩) h6).trans h10⟩
theorem RF.mono {g b lo lo' : Nat} {w : World} {a e : Int} (h : RF g b lo w a e) (hl : lo' ≤ lo) : RF g b lo' w a e := by
  obtain ⟨c, o, n, m, D, kk, z, t, h0, h1⟩ := h
  exact ⟨c, o, n, m, D, kk, z, t, by omega, h1⟩
theorem RF.of {g b lo cap : Nat} {T pre L : List Tk} {r : Tk} {w w' : World} {D er a : Int} (hD : True) (hr : r.2.1.size ≤ 2048) (ht : TR w b T) (he : T = pre ++ r :: L) (hne : b ≠ g) (hle : T.length ≤ cap) (hm : cap ≤ maxLen) (k : Kp g w w') (hb : Bx w' g [.slice (some ⟨b, pre.length * 3, none⟩) (r :: L).length (cap - pre.length), .int .i64 D, .int .i64 er, .int .i64 a]) : RF g b lo w' a er := by
  obtain ⟨t0, t1, t2⟩ := (ht.kp k hne).at he
  have hlen : T.length = pre.length + (r :: L).length := by rw [he]; simp
  exact ⟨b, pre.length * 3, _, _, D, r.1, r.2.2, r.2.1, .inl rfl, hb, by simp, by omega, by omega, hne, (ht.kp k hne).1, hr, hD, t0, t1, t2⟩
theorem RS.of {g b cap : Nat} {T pre L : List Tk} {w w' : World} {d : Nat} {a : Int} (ht : TR w b T) (he : T = pre ++ L) (hne : b ≠ g) (hle : T.length ≤ cap) (hm : cap ≤ maxLen) (k : Kp g w w') (hb : Bx w' g [.slice (some ⟨b, pre.length * 3, none⟩) L.length (cap - pre.length), .int .i64 (d : Int), .int .i64 0, .int .i64 a]) : RS g b cap T w' L d :=
  ⟨⟨pre, a, he, hb⟩, ht.kp k hne, hne, hle, hm⟩
theorem RS.next {g b cap : Nat} {T pre L : List Tk} {r : Tk} {w w' : World} {d : Nat} {a : Int} (ht : TR w b T) (he : T = pre ++ r :: L) (hne : b ≠ g) (hle : T.length ≤ cap) (hm : cap ≤ maxLen) (k : Kp g w w') (hb : Bx w' g [.slice (some ⟨b, pre.length * 3 + 3, none⟩) L.length (cap - pre.length - 1), .int .i64 (d : Int), .int .i64 0, .int .i64 a]) : RS g b cap T w' L d := by
  refine RS.of (pre := pre ++ [r]) ht (by rw [he]; simp) hne hle hm k (a := a) ?_
  rw [show (pre ++ [r]).length * 3 = pre.length * 3 + 3 by simp; omega, show cap - (pre ++ [r]).length = cap - pre.length - 1 by simp; omega]
  exact hb

set_option maxRecDepth 100000 in
set_option maxHeartbeats 4000000 in
/-- the first failure is kept. -/
theorem rfail_ok (g b lo cap : Nat) (T L : List Tk) (r : Tk) (hr : r.2.1.size ≤ 2048) (d : Nat) (hd : d ≤ 100) (er a : Int) (w : World) (h : RS g b cap T w (r :: L) d) :
    Calls Tryd.prog 19 #[.pointer (some ⟨g, 0, none⟩), .int .i64 er, .int .i64 a] w fun e w' => e = .returned (.agg #[.int .i64 0, .string ⟨#[]⟩, .slice none 0 0, .int .i64 0]) ∧ Kp g w w' ∧ RF g b lo w' a er := by
  obtain ⟨⟨pre, a0, e, hb⟩, htr, hne, hle, hmost⟩ := h
  have HB : Hid (Bx w g _) := hb
  have HT : Hid (TR w b T) := htr
  have HE : Hid (T = pre ++ r :: L) := e
  have c0 := hb.c 0 rfl
  have c1 := hb.c 1 rfl
  have c2 := hb.c 2 rfl
  have c3 := hb.c 3 rfl
  have z0 := hb.f 0 rfl
  have z1 := hb.f 1 rfl
  have z2 := hb.f 2 rfl
  have z3 := hb.f 3 rfl
  have hg := hb.1
  have hbl := htr.1
  obtain ⟨t0, t1, t2⟩ := htr.at e
  have HM : Hid (cap ≤ maxLen) := hmost
  unfold maxLen at hmost
  have hlen : T.length = pre.length + L.length + 1 := by rw [e]; simp <;> omega
  clear hb htr e
  go_enter Tryd.func19, Tryd.ntmps19
  go_wp2
  refine bodyPost_ret (v := .agg #[.int .i64 0, .string ⟨#[]⟩, .slice none 0 0, .int .i64 0]) (by simp [results, Tryd.results19, go_sem]) rfl ⟨rfl, ?_, ?_⟩
  · exact (((Kp.refl g w).set (.inl rfl) _).set (.inl rfl) _).alloc _
  · exact RF.of trivial hr HT.out HE.out hne hle HM.out ((((Kp.refl g w).set (p := ⟨g, 2, none⟩) (.inl rfl) _).set (p := ⟨g, 3, none⟩) (.inl rfl) _).alloc _) (((HB.out.set1 2 _ (by simp)).set1 3 _ (by simp)).alloc _)

set_option maxRecDepth 100000 in
set_option maxHeartbeats 4000000 in
theorem rfail_no (g b lo : Nat) (er' a' a e : Int) (he : e ≠ 0) (w : World) (h : RF g b lo w a e) :
    Calls Tryd.prog 19 #[.pointer (some ⟨g, 0, none⟩), .int .i64 er', .int .i64 a'] w fun e' w' => e' = .returned (.agg #[.int .i64 0, .string ⟨#[]⟩, .slice none 0 0, .int .i64 0]) ∧ Kp g w w' ∧ RF g b lo w' a e := by
  obtain ⟨c, o, n, m, D, k, z, t, -, hb, h2, h3, h4, h5, h6, h7, hD, t0, t1, t2⟩ := id h
  have HF : Hid (RF g b lo w a e) := h
  have c0 := hb.c 0 rfl
  have c1 := hb.c 1 rfl
  have c2 := hb.c 2 rfl
  have c3 := hb.c 3 rfl
  have z0 := hb.f 0 rfl
  have z1 := hb.f 1 rfl
  have hg := hb.1
  have hnI : (1 : Int) ≤ (n : Int) := by omega
  have hnmI : (n : Int) ≤ (m : Int) := by omega
  unfold maxLen at h4
  have hmI : (m : Int) ≤ 9223372036854775807 := by omega
  have he0 : (e == 0) = false := by simp; omega
  clear hb h
  go_enter Tryd.func19, Tryd.ntmps19
  go_wp2
  refine bodyPost_ret (v := .agg #[.int .i64 0, .string ⟨#[]⟩, .slice none 0 0, .int .i64 0]) (by simp [results, Tryd.results19, go_sem]) rfl ⟨rfl, ?_, ?_⟩
  · exact (Kp.refl g w).alloc _
  · exact HF.out.below ((Below.refl _ w).alloc (Nat.le_refl _) _)

set_option maxRecDepth 100000 in
set_option maxHeartbeats 4000000 in
/-- no such sign: the token stays. -/
theorem rsign_kind (g b cap : Nat) (T L : List Tk) (r : Tk) (s : ByteArray) (hs : sgB r s = false) (h4 : r.1 ≠ 4) (h2 : r.1 ≠ 2) (d : Nat) (w : World) (h : RS g b cap T w (r :: L) d) :
    Calls Tryd.prog 35 #[.pointer (some ⟨g, 0, none⟩), .string s] w fun e w' => e = .returned (.bool false) ∧ Kp g w w' ∧ RS g b cap T w' (r :: L) d := by
  have HR : Hid (RS g b cap T w (r :: L) d) := h
  obtain ⟨⟨pre, a0, e, hb⟩, htr, hne, hle, hmost⟩ := h
  have HB : Hid (Bx w g _) := hb
  have HT : Hid (TR w b T) := htr
  have HE : Hid (T = pre ++ r :: L) := e
  have c0 := hb.c 0 rfl
  have c1 := hb.c 1 rfl
  have c2 := hb.c 2 rfl
  have c3 := hb.c 3 rfl
  have z0 := hb.f 0 rfl
  have z1 := hb.f 1 rfl
  have z2 := hb.f 2 rfl
  have z3 := hb.f 3 rfl
  have hg := hb.1
  have hbl := htr.1
  obtain ⟨t0, t1, t2⟩ := htr.at e
  have HM : Hid (cap ≤ maxLen) := hmost
  unfold maxLen at hmost
  have hlen : T.length = pre.length + L.length + 1 := by rw [e]; simp <;> omega
  clear hb htr e
  have g4 : (r.1 == 4) = false := by simpa using h4
  have g2 : (r.1 == 2) = false := by simpa using h2
  clear hs
  go_enter Tryd.func35, Tryd.ntmps35
  go_wp2
  go_ret
  exact ⟨rfl, (Kp.refl g w).alloc _, HR.out.below ((Below.refl _ w).alloc (Nat.le_refl _) _)⟩

set_option maxRecDepth 100000 in
set_option maxHeartbeats 4000000 in
theorem rsign_no4 (g b cap : Nat) (T L : List Tk) (r : Tk) (hz : r.2.1.size ≤ 2048) (s : ByteArray) (hs : lowB r.2.1 ≠ s) (h4 : r.1 = 4) (d : Nat) (w : World) (h : RS g b cap T w (r :: L) d) :
    Calls Tryd.prog 35 #[.pointer (some ⟨g, 0, none⟩), .string s] w fun e w' => e = .returned (.bool false) ∧ Kp g w w' ∧ RS g b cap T w' (r :: L) d := by
  have HR : Hid (RS g b cap T w (r :: L) d) := h
  obtain ⟨⟨pre, a0, e, hb⟩, htr, hne, hle, hmost⟩ := h
  have HB : Hid (Bx w g _) := hb
  have HT : Hid (TR w b T) := htr
  have HE : Hid (T = pre ++ r :: L) := e
  have c0 := hb.c 0 rfl
  have c1 := hb.c 1 rfl
  have c2 := hb.c 2 rfl
  have c3 := hb.c 3 rfl
  have z0 := hb.f 0 rfl
  have z1 := hb.f 1 rfl
  have z2 := hb.f 2 rfl
  have z3 := hb.f 3 rfl
  have hg := hb.1
  have hbl := htr.1
  obtain ⟨t0, t1, t2⟩ := htr.at e
  have HM : Hid (cap ≤ maxLen) := hmost
  unfold maxLen at hmost
  have hlen : T.length = pre.length + L.length + 1 := by rw [e]; simp <;> omega
  clear hb htr e
  have g4 : (r.1 == 4) = true := by simpa using h4
  have gs : ((lowB r.2.1).toList == s.toList) = false := by rw [toList_eq]; exact decide_eq_false hs
  clear hs
  go_enter Tryd.func35, Tryd.ntmps35
  go_wp2_with fail
  refine (rlower_any r.2.1 (by omega) _).mono ?_
  rintro e W ⟨rfl, hk⟩
  have HK : Hid (Below w.heap.size w W) := ((Below.refl _ w).alloc (Nat.le_refl _) _).trans (hk.mono (by simp))
  clear hk
  go_wp2
  go_ret
  exact ⟨rfl, Kp.of HK.out, HR.out.below HK.out⟩

set_option maxRecDepth 100000 in
set_option maxHeartbeats 4000000 in
theorem rsign_yes4 (g b cap : Nat) (T L : List Tk) (r q : Tk) (hz : r.2.1.size ≤ 2048) (s : ByteArray) (hs : lowB r.2.1 = s) (h4 : r.1 = 4) (d : Nat) (w : World) (h : RS g b cap T w (r :: q :: L) d) :
    Calls Tryd.prog 35 #[.pointer (some ⟨g, 0, none⟩), .string s] w fun e w' => e = .returned (.bool true) ∧ Kp g w w' ∧ RS g b cap T w' (q :: L) d := by
  obtain ⟨L', hL'⟩ : ∃ L', q :: L = L' := ⟨_, rfl⟩
  have hl1 : 1 ≤ L'.length := by rw [← hL']; simp
  rw [hL'] at h ⊢
  clear hL'
  obtain ⟨⟨pre, a0, e, hb⟩, htr, hne, hle, hmost⟩ := h
  have HB : Hid (Bx w g _) := hb
  have HT : Hid (TR w b T) := htr
  have HE : Hid (T = pre ++ r :: L') := e
  have c0 := hb.c 0 rfl
  have c1 := hb.c 1 rfl
  have c2 := hb.c 2 rfl
  have c3 := hb.c 3 rfl
  have z0 := hb.f 0 rfl
  have z1 := hb.f 1 rfl
  have z2 := hb.f 2 rfl
  have z3 := hb.f 3 rfl
  have hg := hb.1
  have hbl := htr.1
  obtain ⟨t0, t1, t2⟩ := htr.at e
  have HM : Hid (cap ≤ maxLen) := hmost
  unfold maxLen at hmost
  have hlen : T.length = pre.length + L'.length + 1 := by rw [e]; simp <;> omega
  clear hb htr e
  have g4 : (r.1 == 4) = true := by simpa using h4
  have gs : ((lowB r.2.1).toList == s.toList) = true := by rw [toList_eq]; exact decide_eq_true hs
  clear hs
  go_enter Tryd.func35, Tryd.ntmps35
  go_wp2_with fail
  refine (rlower_any r.2.1 (by omega) _).mono ?_
  rintro e W ⟨rfl, hk⟩
  have HK : Hid (Below w.heap.size w W) := ((Below.refl _ w).alloc (Nat.le_refl _) _).trans (hk.mono (by simp))
  clear hk
  have HB2 : Hid (Bx W g _) := HB.out.below HK.out
  have HT2 : Hid (TR W b T) := HT.out.kp (Kp.of (g := g) HK.out) hne
  have HKp : Hid (Kp g w W) := Kp.of HK.out
  have d0 := HB2.out.c 0 rfl
  have y0 := HB2.out.f 0 rfl
  have hg2 := HB2.out.1
  clear HB HT HK c0 c1 c2 c3 z0 z1 z2 z3 t0 t1 t2 hg hbl
  go_wp2
  go_ret
  refine ⟨rfl, HKp.out.set (p := ⟨g, 0, none⟩) (.inl rfl) _, ?_⟩
  exact RS.next HT2.out HE.out hne hle HM.out ((Kp.refl g W).set (p := ⟨g, 0, none⟩) (.inl rfl) _) (HB2.out.set1 0 _ (by simp))

set_option maxRecDepth 100000 in
set_option maxHeartbeats 4000000 in
theorem rsign_no2 (g b cap : Nat) (T L : List Tk) (r : Tk) (hz : r.2.1.size ≤ 2048) (s : ByteArray) (hs : lowB r.2.1 ≠ s) (h2 : r.1 = 2) (d : Nat) (w : World) (h : RS g b cap T w (r :: L) d) :
    Calls Tryd.prog 35 #[.pointer (some ⟨g, 0, none⟩), .string s] w fun e w' => e = .returned (.bool false) ∧ Kp g w w' ∧ RS g b cap T w' (r :: L) d := by
  have HR : Hid (RS g b cap T w (r :: L) d) := h
  obtain ⟨⟨pre, a0, e, hb⟩, htr, hne, hle, hmost⟩ := h
  have HB : Hid (Bx w g _) := hb
  have HT : Hid (TR w b T) := htr
  have HE : Hid (T = pre ++ r :: L) := e
  have c0 := hb.c 0 rfl
  have c1 := hb.c 1 rfl
  have c2 := hb.c 2 rfl
  have c3 := hb.c 3 rfl
  have z0 := hb.f 0 rfl
  have z1 := hb.f 1 rfl
  have z2 := hb.f 2 rfl
  have z3 := hb.f 3 rfl
  have hg := hb.1
  have hbl := htr.1
  obtain ⟨t0, t1, t2⟩ := htr.at e
  have HM : Hid (cap ≤ maxLen) := hmost
  unfold maxLen at hmost
  have hlen : T.length = pre.length + L.length + 1 := by rw [e]; simp <;> omega
  clear hb htr e
  have g4 : (r.1 == 4) = false := by simp; omega
  have h4 : r.1 ≠ 4 := by omega
  have g2 : (r.1 == 2) = true := by simpa using h2
  have gs : ((lowB r.2.1).toList == s.toList) = false := by rw [toList_eq]; exact decide_eq_false hs
  clear hs
  go_enter Tryd.func35, Tryd.ntmps35
  go_wp2_with fail
  refine (rlower_any r.2.1 (by omega) _).mono ?_
  rintro e W ⟨rfl, hk⟩
  have HK : Hid (Below w.heap.size w W) := ((Below.refl _ w).alloc (Nat.le_refl _) _).trans (hk.mono (by simp))
  clear hk
  go_wp2
  go_ret
  exact ⟨rfl, Kp.of HK.out, HR.out.below HK.out⟩

set_option maxRecDepth 100000 in
set_option maxHeartbeats 4000000 in
theorem rsign_yes2 (g b cap : Nat) (T L : List Tk) (r q : Tk) (hz : r.2.1.size ≤ 2048) (s : ByteArray) (hs : lowB r.2.1 = s) (h2 : r.1 = 2) (d : Nat) (w : World) (h : RS g b cap T w (r :: q :: L) d) :
    Calls Tryd.prog 35 #[.pointer (some ⟨g, 0, none⟩), .string s] w fun e w' => e = .returned (.bool true) ∧ Kp g w w' ∧ RS g b cap T w' (q :: L) d := by
  obtain ⟨L', hL'⟩ : ∃ L', q :: L = L' := ⟨_, rfl⟩
  have hl1 : 1 ≤ L'.length := by rw [← hL']; simp
  rw [hL'] at h ⊢
  clear hL'
  obtain ⟨⟨pre, a0, e, hb⟩, htr, hne, hle, hmost⟩ := h
  have HB : Hid (Bx w g _) := hb
  have HT : Hid (TR w b T) := htr
  have HE : Hid (T = pre ++ r :: L') := e
  have c0 := hb.c 0 rfl
  have c1 := hb.c 1 rfl
  have c2 := hb.c 2 rfl
  have c3 := hb.c 3 rfl
  have z0 := hb.f 0 rfl
  have z1 := hb.f 1 rfl
  have z2 := hb.f 2 rfl
  have z3 := hb.f 3 rfl
  have hg := hb.1
  have hbl := htr.1
  obtain ⟨t0, t1, t2⟩ := htr.at e
  have HM : Hid (cap ≤ maxLen) := hmost
  unfold maxLen at hmost
  have hlen : T.length = pre.length + L'.length + 1 := by rw [e]; simp <;> omega
  clear hb htr e
  have g4 : (r.1 == 4) = false := by simp; omega
  have h4 : r.1 ≠ 4 := by omega
  have g2 : (r.1 == 2) = true := by simpa using h2
  have gs : ((lowB r.2.1).toList == s.toList) = true := by rw [toList_eq]; exact decide_eq_true hs
  clear hs
  go_enter Tryd.func35, Tryd.ntmps35
  go_wp2_with fail
  refine (rlower_any r.2.1 (by omega) _).mono ?_
  rintro e W ⟨rfl, hk⟩
  have HK : Hid (Below w.heap.size w W) := ((Below.refl _ w).alloc (Nat.le_refl _) _).trans (hk.mono (by simp))
  clear hk
  have HB2 : Hid (Bx W g _) := HB.out.below HK.out
  have HT2 : Hid (TR W b T) := HT.out.kp (Kp.of (g := g) HK.out) hne
  have HKp : Hid (Kp g w W) := Kp.of HK.out
  have d0 := HB2.out.c 0 rfl
  have y0 := HB2.out.f 0 rfl
  have hg2 := HB2.out.1
  clear HB HT HK c0 c1 c2 c3 z0 z1 z2 z3 t0 t1 t2 hg hbl
  go_wp2
  go_ret
  refine ⟨rfl, HKp.out.set (p := ⟨g, 0, none⟩) (.inl rfl) _, ?_⟩
  exact RS.next HT2.out HE.out hne hle HM.out ((Kp.refl g W).set (p := ⟨g, 0, none⟩) (.inl rfl) _) (HB2.out.set1 0 _ (by simp))

set_option maxRecDepth 100000 in
set_option maxHeartbeats 4000000 in
theorem rsign_bad (g b lo : Nat) (s : ByteArray) (a e : Int) (he : e ≠ 0) (w : World) (h : RF g b lo w a e) :
    Calls Tryd.prog 35 #[.pointer (some ⟨g, 0, none⟩), .string s] w fun e' w' => e' = .returned (.bool false) ∧ Kp g w w' ∧ RF g b lo w' a e := by
  obtain ⟨c, o, n, m, D, k, z, t, -, hb, h2, h3, h4, h5, h6, h7, hD, t0, t1, t2⟩ := id h
  have HF : Hid (RF g b lo w a e) := h
  have c0 := hb.c 0 rfl
  have c1 := hb.c 1 rfl
  have c2 := hb.c 2 rfl
  have c3 := hb.c 3 rfl
  have z0 := hb.f 0 rfl
  have z1 := hb.f 1 rfl
  have hg := hb.1
  have hnI : (1 : Int) ≤ (n : Int) := by omega
  have hnmI : (n : Int) ≤ (m : Int) := by omega
  unfold maxLen at h4
  have hmI : (m : Int) ≤ 9223372036854775807 := by omega
  have he0 : (e == 0) = false := by simp; omega
  clear hb h
  go_enter Tryd.func35, Tryd.ntmps35
  go_wp2
  go_ret
  exact ⟨rfl, (Kp.refl g w).alloc _, HF.out.below ((Below.refl _ w).alloc (Nat.le_refl _) _)⟩

set_option maxRecDepth 100000 in
set_option maxHeartbeats 4000000 in
theorem rinner_ok (g b cap : Nat) (T L : List Tk) (r : Tk) (d : Nat) (hd : d < 20) (a : Int) (w : World) (h : RS g b cap T w (r :: L) d) :
    Calls Tryd.prog 36 #[.pointer (some ⟨g, 0, none⟩), .int .i64 a] w fun e w' => e = .returned (.bool true) ∧ Kp g w w' ∧ RS g b cap T w' (r :: L) (d + 1) := by
  obtain ⟨⟨pre, a0, e, hb⟩, htr, hne, hle, hmost⟩ := h
  have HB : Hid (Bx w g _) := hb
  have HT : Hid (TR w b T) := htr
  have HE : Hid (T = pre ++ r :: L) := e
  have c0 := hb.c 0 rfl
  have c1 := hb.c 1 rfl
  have c2 := hb.c 2 rfl
  have c3 := hb.c 3 rfl
  have z0 := hb.f 0 rfl
  have z1 := hb.f 1 rfl
  have z2 := hb.f 2 rfl
  have z3 := hb.f 3 rfl
  have hg := hb.1
  have hbl := htr.1
  obtain ⟨t0, t1, t2⟩ := htr.at e
  have HM : Hid (cap ≤ maxLen) := hmost
  unfold maxLen at hmost
  have hlen : T.length = pre.length + L.length + 1 := by rw [e]; simp <;> omega
  clear hb htr e
  have hdI : (d : Int) < 20 := by omega
  have hd0 : (0 : Int) ≤ (d : Int) := by omega
  have hdw : IntKind.i64.wrap ((d : Int) + 1) = (d : Int) + 1 := by rw [IntKind.wrap_i64]; omega
  go_enter Tryd.func36, Tryd.ntmps36
  go_wp2
  go_ret
  refine ⟨rfl, (Kp.refl g w).set (p := ⟨g, 1, none⟩) (.inl rfl) _, ?_⟩
  exact RS.of (d := d + 1) HT.out HE.out hne hle HM.out ((Kp.refl g w).set (p := ⟨g, 1, none⟩) (.inl rfl) _) (HB.out.set1 1 _ (by simp))

set_option maxRecDepth 100000 in
set_option maxHeartbeats 4000000 in
theorem rinner_no (g b lo cap : Nat) (T L : List Tk) (r : Tk) (hr : r.2.1.size ≤ 2048) (a : Int) (w : World) (h : RS g b cap T w (r :: L) 20) :
    Calls Tryd.prog 36 #[.pointer (some ⟨g, 0, none⟩), .int .i64 a] w fun e w' => e = .returned (.bool false) ∧ Kp g w w' ∧ RF g b lo w' a 31 := by
  obtain ⟨d, hd⟩ : ∃ d : Nat, d = 20 := ⟨_, rfl⟩
  obtain ⟨⟨pre, a0, e, hb⟩, htr, hne, hle, hmost⟩ := h
  have HB : Hid (Bx w g _) := hb
  have HT : Hid (TR w b T) := htr
  have HE : Hid (T = pre ++ r :: L) := e
  have c0 := hb.c 0 rfl
  have c1 := hb.c 1 rfl
  have c2 := hb.c 2 rfl
  have c3 := hb.c 3 rfl
  have z0 := hb.f 0 rfl
  have z1 := hb.f 1 rfl
  have z2 := hb.f 2 rfl
  have z3 := hb.f 3 rfl
  have hg := hb.1
  have hbl := htr.1
  obtain ⟨t0, t1, t2⟩ := htr.at e
  have HM : Hid (cap ≤ maxLen) := hmost
  unfold maxLen at hmost
  have hlen : T.length = pre.length + L.length + 1 := by rw [e]; simp <;> omega
  clear hb htr e
  have HS : Hid (RS g b cap T (w.setCell ⟨g, 1, none⟩ (.int .i64 21)) (r :: L) 21) := RS.of (d := 21) HT.out HE.out hne hle HM.out ((Kp.refl g w).set (p := ⟨g, 1, none⟩) (.inl rfl) _) (HB.out.set1 1 _ (by simp))
  go_enter Tryd.func36, Tryd.ntmps36
  go_wp2_with fail
  refine (rfail_ok g b lo cap T L r hr 21 (by omega) 31 a _ HS.out).mono ?_
  rintro e W ⟨rfl, hk, hf⟩
  have HF : Hid (RF g b lo W a 31) := hf
  have HK : Hid (Kp g w W) := ((Kp.refl g w).set (p := ⟨g, 1, none⟩) (.inl rfl) _).trans hk
  clear hk
  obtain ⟨_, _, _, _, _, _, _, _, _, hb, _⟩ := hf
  have y2 := hb.c 2 rfl
  have hg2 := hb.1
  clear hb
  go_wp2
  go_ret
  exact ⟨rfl, HK.out, HF.out⟩

theorem rsign_any (g b cap : Nat) (T L : List Tk) (r : Tk) (hz : GoodT r) (s : ByteArray) (hL : sgB r s = true → L ≠ []) (d : Nat) (w : World) (h : RS g b cap T w (r :: L) d) :
    Calls Tryd.prog 35 #[.pointer (some ⟨g, 0, none⟩), .string s] w fun e w' => e = .returned (.bool (sgB r s)) ∧ Kp g w w' ∧ RS g b cap T w' (if sgB r s = true then L else r :: L) d := by
  by_cases hs : sgB r s = true
  · rw [hs, if_pos rfl]
    have hs2 := hs
    unfold sgB at hs2
    simp only [Bool.and_eq_true, Bool.or_eq_true, decide_eq_true_eq] at hs2
    cases L with
    | nil => exact absurd rfl (hL hs)
    | cons q L =>
      rcases hs2.1 with h4 | h2
      · exact rsign_yes4 g b cap T L r q hz.size s hs2.2 h4 d w h
      · exact rsign_yes2 g b cap T L r q hz.size s hs2.2 h2 d w h
  · have hs0 : sgB r s = false := by simpa using hs
    rw [hs0, if_neg (by simp)]
    by_cases h4 : r.1 = 4
    · exact rsign_no4 g b cap T L r hz.size s (fun e => hs (by unfold sgB; simp [h4, e])) h4 d w h
    by_cases h2 : r.1 = 2
    · exact rsign_no2 g b cap T L r hz.size s (fun e => hs (by unfold sgB; simp [h2, e])) h2 d w h
    exact rsign_kind g b cap T L r s hs0 h4 h2 d w h

end Go.Proofs.YtaoocecipacnhaaDoor
