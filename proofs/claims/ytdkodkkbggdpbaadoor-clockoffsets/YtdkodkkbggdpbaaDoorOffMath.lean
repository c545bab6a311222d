/- Mathematics: what an offset's text looks like; the runs and the scan find just that. -/
import Derived.Test.YtdkodkkbggdpbaaDoorOffE
namespace Go.Proofs.YtdkodkkbggdpbaaDoor
open Go.RowKit
set_option linter.unusedVariables false

/-- the texts of offsets, behind their sign. -/
def OForm (q : List UInt8) (t : Int × Int × Int) : Prop :=
  (∃ A M, DgL A 2 2 ∧ DgL M 2 2 ∧ q = A ++ M ∧ t = (valD 0 A, valD 0 M, 0)) ∨
  (∃ A, DgL A 1 2 ∧ q = A ∧ t = (valD 0 A, 0, 0)) ∨
  (∃ A M, DgL A 1 2 ∧ DgL M 2 2 ∧ q = A ++ 58 :: M ∧ t = (valD 0 A, valD 0 M, 0)) ∨
  (∃ A M S, DgL A 1 2 ∧ DgL M 2 2 ∧ DgL S 2 2 ∧ q = A ++ 58 :: (M ++ 58 :: S) ∧ t = (valD 0 A, valD 0 M, valD 0 S))

/-- what the program makes of the runs. -/
def ogood : List Run → Option (Int × Int × Int)
  | [r0] => if r0.2.1 = 4 then some (r0.2.2 / 100, r0.2.2 % 100, 0) else if 0 < r0.2.1 ∧ faceOk [r0] = true then some (r0.2.2, 0, 0) else none
  | [r0, r1] => if 0 < r1.2.1 ∧ faceOk [r0, r1] = true then some (r0.2.2, r1.2.2, 0) else none
  | [r0, r1, r2] => if 0 < r2.2.1 ∧ faceOk [r0, r1, r2] = true then some (r0.2.2, r1.2.2, r2.2.2) else none
  | _ => none
def cOff (q : List UInt8) : Option (Int × Int × Int) := (runsL q [] (0, 0, 0)).bind ogood

theorem ogood1 (m0 n0 : Int) (d0 : Nat) : ogood [(m0, d0, n0)] = if d0 = 4 then some (n0 / 100, n0 % 100, 0) else if 0 < d0 ∧ faceOk [(m0, d0, n0)] = true then some (n0, 0, 0) else none := rfl
theorem ogood2 (m0 n0 m1 n1 : Int) (d0 d1 : Nat) : ogood [(m0, d0, n0), (m1, d1, n1)] = if 0 < d1 ∧ faceOk [(m0, d0, n0), (m1, d1, n1)] = true then some (n0, n1, 0) else none := rfl
theorem ogood3 (m0 n0 m1 n1 m2 n2 : Int) (d0 d1 d2 : Nat) : ogood [(m0, d0, n0), (m1, d1, n1), (m2, d2, n2)] = if 0 < d2 ∧ faceOk [(m0, d0, n0), (m1, d1, n1), (m2, d2, n2)] = true then some (n0, n1, n2) else none := rfl
theorem face1 (d0 : Nat) (n0 m0 : Int) : faceOk [(m0, d0, n0)] = true ↔ d0 ≤ 2 := by
  simp [faceOk, faceFrom, badR]
theorem valD_app (n : Int) (A B : List UInt8) : valD n (A ++ B) = valD (valD n A) B := by
  unfold valD; rw [List.foldl_append]
theorem valD_lin : ∀ (B : List UInt8) (n : Int), valD n B = n * 10 ^ B.length + valD 0 B
  | [], n => by simp [valD]
  | c :: B, n => by
    have a := valD_lin B (n * 10 + ((c.toNat : Int) - 48))
    have b := valD_lin B (0 * 10 + ((c.toNat : Int) - 48))
    show valD (n * 10 + ((c.toNat : Int) - 48)) B = n * 10 ^ (B.length + 1) + valD (0 * 10 + ((c.toNat : Int) - 48)) B
    rw [a, b, Int.pow_succ]
    rw [Int.add_mul, Int.add_mul, Int.zero_mul, Int.zero_mul, Int.mul_assoc n, Int.mul_comm 10 (10 ^ B.length)]
    omega
theorem val_bd {A : List UInt8} {k : Nat} (h : ∀ c ∈ A, isDg c = true) (hk : A.length ≤ k) : 0 ≤ valD 0 A ∧ valD 0 A < 10 ^ k := by
  have r := valD_bd A 0 (by omega) h
  refine ⟨r.1, Int.lt_of_lt_of_le r.2 ?_⟩
  rw [Int.zero_add, Int.one_mul]
  have : (10 : Nat) ^ A.length ≤ 10 ^ k := Nat.pow_le_pow_right (by decide) hk
  have e1 : (10 : Int) ^ A.length = (((10 : Nat) ^ A.length : Nat) : Int) := by rw [Int.natCast_pow]; rfl
  have e2 : (10 : Int) ^ k = (((10 : Nat) ^ k : Nat) : Int) := by rw [Int.natCast_pow]; rfl
  rw [e1, e2]
  omega
theorem val_two {M : List UInt8} (h : ∀ c ∈ M, isDg c = true) (hk : M.length = 2) (A : List UInt8) : valD 0 (A ++ M) / 100 = valD 0 A ∧ valD 0 (A ++ M) % 100 = valD 0 M := by
  have r := val_bd h (Nat.le_of_eq hk)
  rw [valD_app, valD_lin M, hk]
  have e : (10 : Int) ^ 2 = 100 := by decide
  rw [e] at r ⊢
  omega

theorem c_of_off {q : List UInt8} {t : Int × Int × Int} (h : OForm q t) : cOff q = some t := by
  rcases h with ⟨A, M, ⟨a, a1, a2⟩, ⟨b, b1, b2⟩, rfl, rfl⟩ | ⟨A, ⟨a, a1, a2⟩, rfl, rfl⟩ | ⟨A, M, ⟨a, a1, a2⟩, ⟨b, b1, b2⟩, rfl, rfl⟩ | ⟨A, M, S, ⟨a, a1, a2⟩, ⟨b, b1, b2⟩, ⟨c, c1, c2⟩, rfl, rfl⟩
  · unfold cOff
    have hd : ∀ c ∈ A ++ M, isDg c = true := fun c hc => (List.mem_append.1 hc).elim (a c) (b c)
    have hz : (A ++ M).length = 4 := by rw [List.length_append]; omega
    rw [runsL_end (A ++ M) [] 0 hd (by omega)]
    show ogood [(0, (A ++ M).length, valD 0 (A ++ M))] = _
    rw [ogood1]
    rw [if_pos hz]
    have v := val_two b (by omega) A
    rw [v.1, v.2]
  · unfold cOff
    rw [runsL_end q [] 0 a (by omega)]
    show ogood [(0, q.length, valD 0 q)] = _
    rw [ogood1]
    rw [if_neg (by show ¬ q.length = 4; omega), if_pos ⟨by show 0 < q.length; omega, (face1 _ _ _).2 a2⟩]
  · unfold cOff
    rw [runsL_go A M [] 0 58 a (by omega) (by omega) (.inl rfl) (by decide), runsL_end M _ _ b (by omega)]
    show ogood [(0, A.length, valD 0 A), (58, M.length, valD 0 M)] = _
    rw [ogood2]
    rw [if_pos ⟨by show 0 < M.length; omega, (face2 _ _ _ _ _ _).2 ⟨by omega, by omega, rfl⟩⟩]
  · unfold cOff
    rw [runsL_go A _ [] 0 58 a (by omega) (by omega) (.inl rfl) (by decide), runsL_go M S _ _ 58 b (by omega) (by omega) (.inl rfl) (by simp), runsL_end S _ _ c (by omega)]
    show ogood [(0, A.length, valD 0 A), (58, M.length, valD 0 M), (58, S.length, valD 0 S)] = _
    rw [ogood3]
    rw [if_pos ⟨by show 0 < S.length; omega, (face3 _ _ _ _ _ _ _ _ _).2 ⟨by omega, ⟨by omega, rfl⟩, by omega, rfl⟩⟩]

theorem off_of_c {q : List UInt8} {t : Int × Int × Int} (h : cOff q = some t) : OForm q t := by
  unfold cOff at h
  obtain ⟨L, hL, hg⟩ := Option.bind_eq_some_iff.1 h
  obtain ⟨A, r0, rfl, a, a6, R⟩ := runsL_parse _ _ _ _ _ _ (by decide) hL
  rw [Nat.zero_add] at R a6
  rcases R with ⟨rfl, rfl⟩ | ⟨c1, q1, rfl, hc1, z1, _, R⟩
  · change ogood [(0, A.length, valD 0 A)] = _ at hg
    rw [ogood1] at hg
    by_cases k4 : A.length = 4
    · rw [if_pos k4] at hg
      have e : A = A.take 2 ++ A.drop 2 := (List.take_append_drop 2 A).symm
      have d1 : ∀ c ∈ A.take 2, isDg c = true := fun c hc => a c (List.mem_of_mem_take hc)
      have d2 : ∀ c ∈ A.drop 2, isDg c = true := fun c hc => a c (List.mem_of_mem_drop hc)
      have v := val_two d2 (by simp; omega) (A.take 2)
      rw [← e] at v
      refine .inl ⟨A.take 2, A.drop 2, ⟨d1, by simp; omega, by simp; omega⟩, ⟨d2, by simp; omega, by simp; omega⟩, by rw [List.append_nil]; exact e, ?_⟩
      rw [← v.1, ← v.2]
      exact (Option.some.inj hg).symm
    · rw [if_neg k4] at hg
      by_cases k : 0 < A.length ∧ faceOk [(0, A.length, valD 0 A)] = true
      · rw [if_pos k] at hg
        exact .inr (.inl ⟨A, ⟨a, k.1, (face1 _ _ _).1 k.2⟩, by rw [List.append_nil], (Option.some.inj hg).symm⟩)
      · rw [if_neg k] at hg; cases hg
  obtain ⟨M, r1, rfl, b, b6, R⟩ := runsL_parse _ _ _ _ _ _ (by decide) R
  rw [Nat.zero_add] at R b6
  rcases R with ⟨rfl, rfl⟩ | ⟨c2, q2, rfl, hc2, z2, _, R⟩
  · change ogood [(0, A.length, valD 0 A), ((c1.toNat : Int), M.length, valD 0 M)] = _ at hg
    rw [ogood2] at hg
    by_cases k : 0 < M.length ∧ faceOk [(0, A.length, valD 0 A), ((c1.toNat : Int), M.length, valD 0 M)] = true
    · rw [if_pos k] at hg
      obtain ⟨k1, k2, k3⟩ := (face2 _ _ _ _ _ _).1 k.2
      obtain rfl := m58 k3
      exact .inr (.inr (.inl ⟨A, M, ⟨a, by omega, by omega⟩, ⟨b, by omega, by omega⟩, by simp, (Option.some.inj hg).symm⟩))
    · rw [if_neg k] at hg; cases hg
  obtain ⟨S, r2, rfl, c, c6, R⟩ := runsL_parse _ _ _ _ _ _ (by decide) R
  rw [Nat.zero_add] at R c6
  rcases R with ⟨rfl, rfl⟩ | ⟨c3, q3, rfl, hc3, z3, _, R⟩
  · change ogood [(0, A.length, valD 0 A), ((c1.toNat : Int), M.length, valD 0 M), ((c2.toNat : Int), S.length, valD 0 S)] = _ at hg
    rw [ogood3] at hg
    by_cases k : 0 < S.length ∧ faceOk [(0, A.length, valD 0 A), ((c1.toNat : Int), M.length, valD 0 M), ((c2.toNat : Int), S.length, valD 0 S)] = true
    · rw [if_pos k] at hg
      obtain ⟨k1, ⟨k2, k3⟩, k4, k5⟩ := (face3 _ _ _ _ _ _ _ _ _).1 k.2
      obtain rfl := m58 k3
      obtain rfl := m58 k5
      exact .inr (.inr (.inr ⟨A, M, S, ⟨a, by omega, by omega⟩, ⟨b, by omega, by omega⟩, ⟨c, by omega, by omega⟩, by simp, (Option.some.inj hg).symm⟩))
    · rw [if_neg k] at hg; cases hg
  obtain ⟨U, r3, rfl, d, d6, R⟩ := runsL_parse _ _ _ _ _ _ (by decide) R
  rw [Nat.zero_add] at R d6
  rcases R with ⟨rfl, rfl⟩ | ⟨c4, q4, rfl, hc4, z4, hz, R⟩
  · cases hg
  · simp at hz

/-- hours and minutes together. -/
def four (q : List UInt8) : Prop := q.length = 4 ∧ q[1]? ≠ some 58 ∧ q[2]? ≠ some 58
instance (q : List UInt8) : Decidable (four q) := by unfold four; infer_instance
def fM (q : List UInt8) : List UInt8 := digs 2 (rL1 q)
def fL2 (q : List UInt8) : List UInt8 := (rL1 q).drop (fM q).length
def fQ1 (q : List UInt8) : Bool := false || decide ((rA q).length < 2)
def fQ2 (q : List UInt8) : Bool := fQ1 q || decide ((fM q).length < 2)
/-- what the reference makes of the scan. -/
def rOff (q : List UInt8) : Option (Int × Int × Int) :=
  if four q then (if fQ2 q = false ∧ fL2 q = [] then some (valD 0 (rA q), valD 0 (fM q), 0) else none)
  else if sgnB 58 (rL1 q) = false then (if rQ1 q = false ∧ rL2 q = [] then some (valD 0 (rA q), 0, 0) else none)
  else if sgnB 58 (rL3 q) = false then (if rQ3 q = false ∧ rL4 q = [] then some (valD 0 (rA q), valD 0 (rM q), 0) else none)
  else (if rQ5 q = false ∧ rL5 q = [] then some (valD 0 (rA q), valD 0 (rM q), valD 0 (rS q)) else none)

theorem off_of_r {l : List UInt8} {t : Int × Int × Int} (h : rOff l = some t) : OForm l t := by
  have s1 : l = rA l ++ rL1 l := digs_split 2 l
  have s2 : rL2 l = rM l ++ rL3 l := digs_split 2 _
  have s3 : rL4 l = rS l ++ rL5 l := digs_split 2 _
  have s4 : rL1 l = fM l ++ fL2 l := digs_split 2 _
  have d1 : (rA l).length ≤ 2 := digs_le 2 _
  have d2 : (rM l).length ≤ 2 := digs_le 2 _
  have d3 : (rS l).length ≤ 2 := digs_le 2 _
  have d4 : (fM l).length ≤ 2 := digs_le 2 _
  have e1 := digs_dg 2 l
  have e2 := digs_dg 2 (rL2 l)
  have e3 := digs_dg 2 (rL4 l)
  have e4 := digs_dg 2 (rL1 l)
  unfold rOff at h
  by_cases c0 : four l
  · rw [if_pos c0] at h
    by_cases k : fQ2 l = false ∧ fL2 l = []
    · rw [if_pos k] at h
      have q := k.1
      unfold fQ2 fQ1 at q
      rw [Bool.false_or, Bool.or_eq_false_iff] at q
      have q1 := of_decide_eq_false q.1
      have q2 := of_decide_eq_false q.2
      refine .inl ⟨rA l, fM l, ⟨e1, by omega, d1⟩, ⟨e4, by omega, d4⟩, ?_, (Option.some.inj h).symm⟩
      rw [k.2, List.append_nil] at s4
      rw [← s4]; exact s1
    · rw [if_neg k] at h; cases h
  rw [if_neg c0] at h
  by_cases c1 : sgnB 58 (rL1 l) = false
  · rw [if_pos c1] at h
    by_cases k : rQ1 l = false ∧ rL2 l = []
    · rw [if_pos k] at h
      have q := k.1
      unfold rQ1 at q
      rw [Bool.false_or] at q
      have q1 := of_decide_eq_false q
      have z : rL1 l = [] := by rw [← sgn_no c1]; exact k.2
      rw [z, List.append_nil] at s1
      exact .inr (.inl ⟨rA l, ⟨e1, by omega, d1⟩, s1, (Option.some.inj h).symm⟩)
    · rw [if_neg k] at h; cases h
  · have c1' : sgnB 58 (rL1 l) = true := by simpa using c1
    have y1 : rL1 l = 58 :: rL2 l := sgn_yes c1'
    have q3 : rQ3 l = false → 1 ≤ (rA l).length ∧ 2 ≤ (rM l).length := fun h => by
      unfold rQ3 rQ2 rQ1 at h
      rw [if_pos c1', Bool.false_or, Bool.or_eq_false_iff] at h
      have h1 := of_decide_eq_false h.1
      have h2 := of_decide_eq_false h.2
      omega
    rw [if_neg c1] at h
    by_cases c2 : sgnB 58 (rL3 l) = false
    · rw [if_pos c2] at h
      by_cases k : rQ3 l = false ∧ rL4 l = []
      · rw [if_pos k] at h
        obtain ⟨a, c⟩ := q3 k.1
        have z : rL3 l = [] := by rw [← sgn_no c2]; exact k.2
        refine .inr (.inr (.inl ⟨rA l, rM l, ⟨e1, a, d1⟩, ⟨e2, c, d2⟩, ?_, (Option.some.inj h).symm⟩))
        rw [z, List.append_nil] at s2
        rw [← s2, ← y1]; exact s1
      · rw [if_neg k] at h; cases h
    · have c2' : sgnB 58 (rL3 l) = true := by simpa using c2
      have y2 : rL3 l = 58 :: rL4 l := sgn_yes c2'
      rw [if_neg c2] at h
      by_cases k : rQ5 l = false ∧ rL5 l = []
      · rw [if_pos k] at h
        have q := k.1
        unfold rQ5 at q
        rw [Bool.or_eq_false_iff] at q
        obtain ⟨a, c⟩ := q3 q.1
        have q2 := of_decide_eq_false q.2
        refine .inr (.inr (.inr ⟨rA l, rM l, rS l, ⟨e1, a, d1⟩, ⟨e2, c, d2⟩, ⟨e3, by omega, d3⟩, ?_, (Option.some.inj h).symm⟩))
        rw [k.2, List.append_nil] at s3
        rw [← s3, ← y2, ← s2, ← y1]; exact s1
      · rw [if_neg k] at h; cases h

theorem r_of_off {l : List UInt8} {t : Int × Int × Int} (h : OForm l t) : rOff l = some t := by
  rcases h with ⟨A, M, ⟨a, a1, a2⟩, ⟨b, b1, b2⟩, hl, rfl⟩ | ⟨A, ⟨a, a1, a2⟩, hl, rfl⟩ | ⟨A, M, ⟨a, a1, a2⟩, ⟨b, b1, b2⟩, hl, rfl⟩ | ⟨A, M, S, ⟨a, a1, a2⟩, ⟨b, b1, b2⟩, ⟨c, c1, c2⟩, hl, rfl⟩
  · have hz : l.length = 4 := by rw [hl, List.length_append]; omega
    have hd : ∀ c ∈ l, isDg c = true := fun c hc => by rw [hl] at hc; exact (List.mem_append.1 hc).elim (a c) (b c)
    have nn : ∀ i : Nat, l[i]? ≠ some 58 := fun i k => by have := hd 58 (List.mem_of_getElem? k); rw [no58] at this; cases this
    have xA : rA l = A := by unfold rA; rw [hl]; exact digs_of a a2 (.inl (by omega))
    have x1 : rL1 l = M := by unfold rL1; rw [xA, hl]; exact drop_len _ _
    have xM : fM l = M := by unfold fM; rw [x1]; have := digs_of (k := 2) (q := []) b b2 (.inr (.inl rfl)); rwa [List.append_nil] at this
    have x2 : fL2 l = [] := by unfold fL2; rw [xM, x1]; simp
    have q : fQ2 l = false := by
      unfold fQ2 fQ1
      rw [xA, xM, decide_eq_false (by omega), decide_eq_false (by omega)]; rfl
    unfold rOff
    rw [if_pos ⟨hz, nn 1, nn 2⟩, if_pos ⟨q, x2⟩, xA, xM]
  · have hz : l.length ≤ 2 := by rw [hl]; omega
    have c0 : ¬ four l := fun k => by have := k.1; omega
    have xA : rA l = A := by unfold rA; rw [hl]; have := digs_of (k := 2) (q := []) a a2 (.inr (.inl rfl)); rwa [List.append_nil] at this
    have x1 : rL1 l = [] := by unfold rL1; rw [xA, hl]; simp
    have x2 : rL2 l = [] := by unfold rL2; rw [x1]; rfl
    have g : sgnB 58 (rL1 l) = false := by rw [x1]; rfl
    have q : rQ1 l = false := by unfold rQ1; rw [xA, decide_eq_false (by omega)]; rfl
    unfold rOff
    rw [if_neg c0, if_pos g, if_pos ⟨q, x2⟩, xA]
  · have c0 : ¬ four l := fun k => by
      have hz := k.1
      rw [hl, List.length_append, List.length_cons] at hz
      have h1 : A.length = 1 := by omega
      refine k.2.1 ?_
      rw [hl, List.getElem?_append_right (by omega), h1]
      rfl
    have xA : rA l = A := by unfold rA; rw [hl]; exact digs_of a a2 (.inr (.inr ⟨58, M, rfl, no58⟩))
    have x1 : rL1 l = 58 :: M := by unfold rL1; rw [xA, hl]; exact drop_len _ _
    have x2 : rL2 l = M := by unfold rL2; rw [x1]; rfl
    have xM : rM l = M := by unfold rM; rw [x2]; have := digs_of (k := 2) (q := []) b b2 (.inr (.inl rfl)); rwa [List.append_nil] at this
    have x3 : rL3 l = [] := by unfold rL3; rw [xM, x2]; simp
    have x4 : rL4 l = [] := by unfold rL4; rw [x3]; rfl
    have g1 : ¬ sgnB 58 (rL1 l) = false := by rw [x1]; simp [sgnB]
    have g : sgnB 58 (rL3 l) = false := by rw [x3]; rfl
    have q : rQ3 l = false := by
      unfold rQ3
      rw [q2_of x1]
      unfold rQ1
      rw [xA, xM, decide_eq_false (by omega), decide_eq_false (by omega)]; rfl
    unfold rOff
    rw [if_neg c0, if_neg g1, if_pos g, if_pos ⟨q, x4⟩, xA, xM]
  · have c0 : ¬ four l := fun k => by
      have hz := k.1
      rw [hl, List.length_append, List.length_cons, List.length_append, List.length_cons] at hz
      omega
    have xA : rA l = A := by unfold rA; rw [hl]; exact digs_of a a2 (.inr (.inr ⟨58, _, rfl, no58⟩))
    have x1 : rL1 l = 58 :: (M ++ 58 :: S) := by unfold rL1; rw [xA, hl]; exact drop_len _ _
    have x2 : rL2 l = M ++ 58 :: S := by unfold rL2; rw [x1]; rfl
    have xM : rM l = M := by unfold rM; rw [x2]; exact digs_of b b2 (.inr (.inr ⟨58, _, rfl, no58⟩))
    have x3 : rL3 l = 58 :: S := by unfold rL3; rw [xM, x2]; exact drop_len _ _
    have x4 : rL4 l = S := by unfold rL4; rw [x3]; rfl
    have xS : rS l = S := by unfold rS; rw [x4]; have := digs_of (k := 2) (q := []) c c2 (.inr (.inl rfl)); rwa [List.append_nil] at this
    have x5 : rL5 l = [] := by unfold rL5; rw [xS, x4]; simp
    have g1 : ¬ sgnB 58 (rL1 l) = false := by rw [x1]; simp [sgnB]
    have g2 : ¬ sgnB 58 (rL3 l) = false := by rw [x3]; simp [sgnB]
    have q : rQ5 l = false := by
      unfold rQ5 rQ3
      rw [q2_of x1]
      unfold rQ1
      rw [xA, xM, xS, decide_eq_false (by omega), decide_eq_false (by omega), decide_eq_false (by omega)]; rfl
    unfold rOff
    rw [if_neg c0, if_neg g1, if_neg g2, if_pos ⟨q, x5⟩, xA, xM, xS]

theorem offs_same (l : List UInt8) : cOff l = rOff l := by
  cases h : rOff l with
  | some t => exact c_of_off (off_of_r h)
  | none =>
    cases k : cOff l with
    | none => rfl
    | some t => rw [r_of_off (off_of_c k)] at h; cases h

/-- the answer: seconds, and what is wrong. -/
def oOk (t : Int × Int × Int) : Prop := t.2.1 ≤ 59 ∧ t.2.2 ≤ 59 ∧ t.1 * 3600 + t.2.1 * 60 + t.2.2 ≤ 57599
instance (t : Int × Int × Int) : Decidable (oOk t) := by unfold oOk; infer_instance
def oV (t : Int × Int × Int) : Int := if oOk t then t.1 * 3600 + t.2.1 * 60 + t.2.2 else 0
def oE (t : Int × Int × Int) : Int := if oOk t then 0 else 10
def oaV : Option (Int × Int × Int) → Int
  | some t => oV t
  | none => 0
def oaE : Option (Int × Int × Int) → Int
  | some t => oE t
  | none => 13

end Go.Proofs.YtdkodkkbggdpbaaDoor
