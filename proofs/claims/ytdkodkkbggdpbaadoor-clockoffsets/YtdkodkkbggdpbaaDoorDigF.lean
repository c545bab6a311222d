/- A time's text is read again as it was: the runs of the text that clock.Text writes. -/
import Derived.Test.YtdkodkkbggdpbaaDoorDigE
namespace Go.Proofs.YtdkodkkbggdpbaaDoor
open Go.RowKit
set_option linter.unusedVariables false

/-- what digits are, behind others. -/
def valD (n : Int) (ds : List UInt8) : Int := ds.foldl (fun a c => a * 10 + ((c.toNat : Int) - 48)) n
theorem at_of {s : ByteArray} {p q : List UInt8} {c : UInt8} {pos : Nat} (hs : s.data.toList = p ++ c :: q) (hp : p.length = pos) (hc : c.toNat < 128) :
    ∃ h : pos < s.size, Utf8.decode s pos = (c.toNat, 1) := by
  have hz : s.size = p.length + (q.length + 1) := by
    have : s.data.toList.length = p.length + (q.length + 1) := by rw [hs]; simp
    rw [← this]; simp
  have h : pos < s.size := by omega
  have hg : s[pos]'h = c := by
    show s.data[pos]'h = c
    rw [← Array.getElem_toList]
    have : s.data.toList[pos]? = some c := by rw [hs, ← hp]; simp
    exact (List.getElem?_eq_some_iff.1 this).2
  exact ⟨h, by rw [decode_ascii s pos h (by rw [hg]; exact hc), hg]⟩
theorem run_digit {s : ByteArray} {p q : List UInt8} {c : UInt8} {pos : Nat} (hs : s.data.toList = p ++ c :: q) (hp : p.length = pos) (h1 : 48 ≤ c.toNat) (h2 : c.toNat ≤ 57) {f : Nat} {l : List Run} {m : Int} {d : Nat} {n : Int} (hd : d < 6) :
    runsF s (f + 1) pos l (m, d, n) = runsF s f (pos + 1) l (m, d + 1, n * 10 + ((c.toNat : Int) - 48)) := by
  obtain ⟨h, e⟩ := at_of hs hp (by omega)
  rw [runsF_digit (R := (c.toNat : Int)) h (by rw [e]) (by omega) (by omega) hd, e]
theorem run_mark {s : ByteArray} {p q : List UInt8} {c : UInt8} {pos : Nat} (hs : s.data.toList = p ++ c :: q) (hp : p.length = pos) (h1 : c = 58 ∨ c = 46) {f : Nat} {l : List Run} {m : Int} {d : Nat} {n : Int} (hd : 0 < d) (hl : l.length < 3) :
    runsF s (f + 1) pos l (m, d, n) = runsF s f (pos + 1) (l ++ [(m, d, n)]) ((c.toNat : Int), 0, 0) := by
  have hc : c.toNat = 58 ∨ c.toNat = 46 := by rcases h1 with rfl | rfl <;> decide
  obtain ⟨h, e⟩ := at_of hs hp (by omega)
  rw [runsF_mark (R := (c.toNat : Int)) h (by rw [e]) (by omega) hd hl, e]
theorem run_two {s : ByteArray} {p q : List UInt8} {x pos : Nat} (hx : x < 100) (hs : s.data.toList = p ++ UInt8.ofNat (48 + x / 10) :: UInt8.ofNat (48 + x % 10) :: q) (hp : p.length = pos) {f : Nat} {l : List Run} {m : Int} :
    runsF s (f + 2) pos l (m, 0, 0) = runsF s f (pos + 2) l (m, 2, (x : Int)) := by
  have a := digit_nat (k := x / 10) (by omega)
  have b := digit_nat (k := x % 10) (by omega)
  rw [run_digit hs hp (by omega) (by omega) (by decide), run_digit (p := p ++ [UInt8.ofNat (48 + x / 10)]) (q := q) (c := UInt8.ofNat (48 + x % 10)) (by rw [hs]; simp) (by simp; omega) (by omega) (by omega) (by decide), a, b]
  congr 3
  omega
theorem run_all {s : ByteArray} {l : List Run} {m : Int} : ∀ (ds p : List UInt8) (f pos d : Nat) (n : Int), s.data.toList = p ++ ds → p.length = pos → (∀ c ∈ ds, 48 ≤ c.toNat ∧ c.toNat ≤ 57) → d + ds.length ≤ 6 → ds.length ≤ f →
    runsF s f pos l (m, d, n) = some (l ++ [(m, d + ds.length, valD n ds)])
  | [], p, f, pos, d, n, hs, hp, _, _, _ => by
    have hz : s.size = p.length := by
      have : s.data.toList.length = p.length := by rw [hs]; simp
      rw [← this]; simp
    rw [runsF_end s f pos l _ (by omega)]
    rfl
  | c :: ds, p, f, pos, d, n, hs, hp, hd, hl, hf => by
    obtain ⟨f', rfl⟩ : ∃ f', f = f' + 1 := ⟨f - 1, by simp at hf; omega⟩
    simp only [List.length_cons] at hl hf
    rw [run_digit hs hp (hd c (by simp)).1 (hd c (by simp)).2 (by omega), run_all ds (p ++ [c]) f' (pos + 1) (d + 1) _ (by rw [hs]; simp) (by simp; omega) (fun x hx => hd x (by simp [hx])) (by omega) (by omega)]
    simp only [List.length_cons]
    rw [show d + 1 + ds.length = d + (ds.length + 1) by omega]
    rfl

theorem twoB_two {x : Nat} (h : x < 100) : (twoB (x : Int)).data.toList = [UInt8.ofNat (48 + x / 10), UInt8.ofNat (48 + x % 10)] := by
  unfold twoB padB dgB
  rw [if_neg (by omega)]
  simp only [Int.natAbs_natCast]
  by_cases hx : x < 10
  · rw [Lib.decDigits_one hx, if_pos (by show ([UInt8.ofNat (48 + x)].toArray).size < 2; simp), show x / 10 = 0 by omega, show x % 10 = x by omega]
    simp
  · rw [Lib.decDigits_two hx h, if_neg (by show ¬ ([UInt8.ofNat (48 + x / 10), UInt8.ofNat (48 + x % 10)].toArray).size < 2; simp)]

theorem trim_mem (l : List UInt8) (c x : UInt8) (h : x ∈ Lib.trimRightB l c) : x ∈ l := by
  unfold Lib.trimRightB at h
  rw [List.mem_reverse] at h
  exact List.mem_reverse.1 ((List.dropWhile_sublist _).mem h)
theorem valD_more (n : Int) (r : List UInt8) (c : UInt8) : valD n (r ++ [c]) = valD n r * 10 + ((c.toNat : Int) - 48) := by
  unfold valD; rw [List.foldl_append]; rfl
theorem trim_val : ∀ (k : Nat) (l : List UInt8), l.length = k → k ≤ 6 → valD 0 (Lib.trimRightB l 48) * 10 ^ (6 - (Lib.trimRightB l 48).length) = valD 0 l * 10 ^ (6 - l.length)
  | 0, l, h, _ => by
    obtain rfl := List.eq_nil_of_length_eq_zero h
    rfl
  | k + 1, l, h, hk => by
    have hne : l ≠ [] := by rintro rfl; simp at h
    obtain ⟨r, c, rfl⟩ : ∃ r c, l = r ++ [c] := ⟨l.dropLast, l.getLast hne, (List.dropLast_concat_getLast hne).symm⟩
    have hr : r.length = k := by simp at h; exact h
    by_cases hc : c = 48
    · subst hc
      rw [trimR_same, trim_val k r hr (by omega), valD_more, List.length_append]
      have e : 6 - r.length = (6 - (r.length + [(48 : UInt8)].length)) + 1 := by simp; omega
      rw [e, Int.pow_succ]
      have z : (((48 : UInt8).toNat : Int) - 48) = 0 := by decide
      rw [z, Int.add_zero, Int.mul_comm (10 ^ _) 10, ← Int.mul_assoc]
    · rw [trimR_stop r c hc]

theorem frac_six {us : Int} (h1 : 1 ≤ us) (h2 : us ≤ 999999) : ∃ L : List UInt8, fracT us = ⟨(Lib.trimRightB L 48).toArray⟩ ∧ L.length = 6 ∧ (∀ c ∈ L, 48 ≤ c.toNat ∧ c.toNat ≤ 57) ∧ valD 0 L = us := by
  obtain ⟨u, hu⟩ : ∃ u : Nat, (1000000 + us).toNat = u := ⟨_, rfl⟩
  have e0 : Lib.itoa (1000000 + us) = Lib.decDigits u := by unfold Lib.itoa; rw [if_neg (by omega), hu]
  have e1 : Lib.decDigits u = [UInt8.ofNat (48 + u / 10 / 10 / 10 / 10 / 10 / 10), UInt8.ofNat (48 + u / 10 / 10 / 10 / 10 / 10 % 10), UInt8.ofNat (48 + u / 10 / 10 / 10 / 10 % 10), UInt8.ofNat (48 + u / 10 / 10 / 10 % 10), UInt8.ofNat (48 + u / 10 / 10 % 10), UInt8.ofNat (48 + u / 10 % 10), UInt8.ofNat (48 + u % 10)] := by
    rw [dec_step (x := u) (by omega), dec_step (x := u / 10) (by omega), dec_step (x := u / 10 / 10) (by omega), dec_step (x := u / 10 / 10 / 10) (by omega), dec_step (x := u / 10 / 10 / 10 / 10) (by omega), dec_step (x := u / 10 / 10 / 10 / 10 / 10) (by omega), Lib.decDigits_one (by omega)]
    rfl
  have a := digit_nat (k := u / 10 / 10 / 10 / 10 / 10 % 10) (by omega)
  have b := digit_nat (k := u / 10 / 10 / 10 / 10 % 10) (by omega)
  have c := digit_nat (k := u / 10 / 10 / 10 % 10) (by omega)
  have d := digit_nat (k := u / 10 / 10 % 10) (by omega)
  have e := digit_nat (k := u / 10 % 10) (by omega)
  have f := digit_nat (k := u % 10) (by omega)
  refine ⟨[UInt8.ofNat (48 + u / 10 / 10 / 10 / 10 / 10 % 10), UInt8.ofNat (48 + u / 10 / 10 / 10 / 10 % 10), UInt8.ofNat (48 + u / 10 / 10 / 10 % 10), UInt8.ofNat (48 + u / 10 / 10 % 10), UInt8.ofNat (48 + u / 10 % 10), UInt8.ofNat (48 + u % 10)], ?_, rfl, ?_, ?_⟩
  · unfold fracT fracS
    rw [itoa7 h1 h2, e0, e1]
    rfl
  · intro x hx
    simp only [List.mem_cons, List.not_mem_nil, or_false] at hx
    rcases hx with rfl | rfl | rfl | rfl | rfl | rfl <;> omega
  · simp only [valD, List.foldl_cons, List.foldl_nil, a, b, c, d, e, f]
    omega

theorem face_list {h m s : Nat} (us : Int) (h1 : h < 100) (m1 : m < 100) (s1 : s < 100) : (faceB (h : Int) (m : Int) (s : Int) us).data.toList = UInt8.ofNat (48 + h / 10) :: UInt8.ofNat (48 + h % 10) :: 58 :: UInt8.ofNat (48 + m / 10) :: UInt8.ofNat (48 + m % 10) :: 58 :: UInt8.ofNat (48 + s / 10) :: UInt8.ofNat (48 + s % 10) :: (fracB us).data.toList := by
  unfold faceB
  simp only [ByteArray.data_append, Array.toList_append, twoB_two h1, twoB_two m1, twoB_two s1]
  rfl

theorem runs_face {h m s : Nat} (us : Int) (h1 : h < 100) (m1 : m < 100) (s1 : s < 100) (F : List UInt8) (hF : (fracB us).data.toList = F) (f : Nat) :
    runsF (faceB (h : Int) (m : Int) (s : Int) us) (f + 8) 0 [] (0, 0, 0) = runsF (faceB (h : Int) (m : Int) (s : Int) us) f 8 [(0, 2, (h : Int)), (58, 2, (m : Int))] (58, 2, (s : Int)) := by
  have hs := face_list us h1 m1 s1
  rw [hF] at hs
  refine (run_two (f := f + 6) (p := []) (pos := 0) h1 hs rfl).trans ?_
  refine (run_mark (f := f + 5) (p := [UInt8.ofNat (48 + h / 10), UInt8.ofNat (48 + h % 10)]) (pos := 2) (c := 58) (l := []) (d := 2) hs rfl (.inl rfl) (by decide) (by decide)).trans ?_
  refine (run_two (f := f + 3) (p := [UInt8.ofNat (48 + h / 10), UInt8.ofNat (48 + h % 10), 58]) (pos := 3) m1 hs rfl).trans ?_
  refine (run_mark (f := f + 2) (p := [UInt8.ofNat (48 + h / 10), UInt8.ofNat (48 + h % 10), 58, UInt8.ofNat (48 + m / 10), UInt8.ofNat (48 + m % 10)]) (pos := 5) (c := 58) (l := [(0, 2, (h : Int))]) (d := 2) hs rfl (.inl rfl) (by decide) (by simp)).trans ?_
  exact run_two (f := f) (p := [UInt8.ofNat (48 + h / 10), UInt8.ofNat (48 + h % 10), 58, UInt8.ofNat (48 + m / 10), UInt8.ofNat (48 + m % 10), 58]) (pos := 6) s1 hs rfl

theorem read_back (t : Int) (ht : isT t) (w : World) :
    Calls Tryd.prog 9 #[.string (textB t)] w fun e w' => e = .returned (.tuple #[.int .i64 t, .int .i64 0]) ∧ Below w.heap.size w w' := by
  obtain ⟨t0, t1⟩ := ht
  obtain ⟨h, hh⟩ : ∃ h : Nat, t / 3600000000 = (h : Int) := ⟨(t / 3600000000).toNat, by omega⟩
  obtain ⟨m, hm⟩ : ∃ m : Nat, t / 60000000 % 60 = (m : Int) := ⟨(t / 60000000 % 60).toNat, by omega⟩
  obtain ⟨s, hs⟩ : ∃ s : Nat, t / 1000000 % 60 = (s : Int) := ⟨(t / 1000000 % 60).toNat, by omega⟩
  obtain ⟨us, hu⟩ : ∃ us : Int, t % 1000000 = us := ⟨_, rfl⟩
  have h9 : h < 100 := by omega
  have m9 : m < 100 := by omega
  have s9 : s < 100 := by omega
  have hok : mkOk (h : Int) (m : Int) (s : Int) us := by unfold mkOk; omega
  have hV : mkV (h : Int) (m : Int) (s : Int) us = t := by rw [mkV_in hok]; omega
  have hE := mkE_in hok
  have eT : textB t = faceB (h : Int) (m : Int) (s : Int) us := by unfold textB; rw [hh, hm, hs, hu]
  rw [eT]
  have hsz : (faceB (h : Int) (m : Int) (s : Int) us).size = (fracB us).data.toList.length + 8 := by
    have : (faceB (h : Int) (m : Int) (s : Int) us).data.toList.length = _ := congrArg List.length (face_list us h9 m9 s9)
    simp only [List.length_cons] at this
    rw [← this]; simp
  by_cases hz : us = 0
  · have hF : (fracB us).data.toList = [] := by rw [hz]; rfl
    have hr := runs_face us h9 m9 s9 [] hF 0
    rw [hF] at hsz
    rw [runsF_end _ 0 8 _ _ (by rw [hsz]; simp)] at hr
    have R := read3 (faceB (h : Int) (m : Int) (s : Int) us) 0 58 58 2 2 2 h m s (by show _ = _; rw [hsz]; exact hr) (by decide) rfl w
    rw [hz] at hV hE
    rw [hV, hE] at R
    exact R
  · have u1 : 1 ≤ us := by omega
    have u2 : us ≤ 999999 := by omega
    obtain ⟨L, hT, hL, hd, hv⟩ := frac_six u1 u2
    have tv := trim_val 6 L hL (by decide)
    rw [hL, hv] at tv
    have tl := trim_len 48 L
    obtain ⟨T, hTT⟩ : ∃ T, T = Lib.trimRightB L 48 := ⟨_, rfl⟩
    have hdT : ∀ c ∈ T, 48 ≤ c.toNat ∧ c.toNat ≤ 57 := fun c hc => hd c (trim_mem L 48 c (hTT ▸ hc))
    rw [← hTT] at tv tl hT
    have hF : (fracB us).data.toList = 46 :: T := by unfold fracB; rw [if_pos ⟨u1, u2⟩, hT]; simp
    have hl := face_list us h9 m9 s9
    rw [hF] at hsz hl
    have hr := (runs_face us h9 m9 s9 (46 :: T) hF (T.length + 1)).trans ((run_mark (f := T.length) (p := [UInt8.ofNat (48 + h / 10), UInt8.ofNat (48 + h % 10), 58, UInt8.ofNat (48 + m / 10), UInt8.ofNat (48 + m % 10), 58, UInt8.ofNat (48 + s / 10), UInt8.ofNat (48 + s % 10)]) (pos := 8) (c := 46) (q := T) (l := [(0, 2, (h : Int)), (58, 2, (m : Int))]) (m := 58) (d := 2) (n := (s : Int)) hl rfl (.inr rfl) (by decide) (by simp)).trans
      (run_all T [UInt8.ofNat (48 + h / 10), UInt8.ofNat (48 + h % 10), 58, UInt8.ofNat (48 + m / 10), UInt8.ofNat (48 + m % 10), 58, UInt8.ofNat (48 + s / 10), UInt8.ofNat (48 + s % 10), 46] T.length 9 0 0 hl rfl hdT (by omega) (Nat.le_refl _)))
    have tv' : valD 0 T * 10 ^ (6 - T.length) = us := by rw [tv]; simp
    have p6 : (0 : Int) < 10 ^ (6 - T.length) := Int.pow_pos (by decide)
    have hpos : 0 < T.length := by
      rcases Nat.eq_zero_or_pos T.length with z | z
      · rw [List.eq_nil_of_length_eq_zero z] at tv'
        simp [valD] at tv'
        omega
      · exact z
    have n0 : 0 ≤ valD 0 T := by
      by_cases k : 0 ≤ valD 0 T
      · exact k
      · have := Int.mul_neg_of_neg_of_pos (by omega : valD 0 T < 0) p6; omega
    have n1 : valD 0 T < 10 ^ T.length := by
      by_cases k : valD 0 T < 10 ^ T.length
      · exact k
      · have a := Int.mul_le_mul_of_nonneg_right (by omega : (10 : Int) ^ T.length ≤ valD 0 T) (Int.le_of_lt p6)
        rw [← Int.pow_add, show T.length + (6 - T.length) = 6 by omega, tv'] at a
        have : (10 : Int) ^ 6 = 1000000 := by decide
        omega
    have HU := micros_any 46 T.length (valD 0 T) (by omega) n0 n1
    rw [tv'] at HU
    have R := read4 (faceB (h : Int) (m : Int) (s : Int) us) 0 58 58 2 2 2 T.length h m s (valD 0 T) us (by
      show _ = _
      rw [hsz, show (46 :: T).length + 8 = T.length + 1 + 8 from rfl, hr, Nat.zero_add]
      rfl) hpos HU rfl w
    rw [hV, hE] at R
    exact R

end Go.Proofs.YtdkodkkbggdpbaaDoor
