/- The walk of LineTwo. -/
import Derived.Test.YtebjicnjbiiioaaDoorLwLineRest
import Derived.Laws.AppendOwnNone
namespace Go.Proofs.YtebjicnjbiiioaaDoor
open Go.RowKit
set_option linter.unusedVariables false

theorem pieces_two (b : List UInt8) : ∀ (a cur : List UInt8), pieces cur (a ++ 10 :: b) = pieces cur a ++ pieces [] b
  | [], cur => by simp [pieces]
  | c :: a, cur => by
    by_cases hc : c = 10
    · rw [List.cons_append, pieces, if_pos hc, pieces_two b a, pieces, if_pos hc]; rfl
    · rw [List.cons_append, pieces, if_neg hc, pieces_two b a, pieces, if_neg hc]
theorem lnsF_two : ∀ (ts us : List (List UInt8)) (n : Nat) (acc L : List Lne), lnsF ts n acc = .inr L → lnsF (ts ++ us) n acc = lnsF us (n + ts.length) L
  | [], us, n, acc, L, e => by
    have : acc = L := by simpa [lnsF] using e
    rw [this]; rfl
  | t :: ts, us, n, acc, L, e => by
    rw [List.cons_append]
    cases ho : oneL t with
    | none => rw [lnsF_none ho] at e; exact absurd e (by simp)
    | some F =>
      rw [lnsF_some ho] at e ⊢
      rw [List.length_cons, show n + (ts.length + 1) = n + 1 + ts.length by omega]
      by_cases h1 : F.length = 0
      · rw [if_pos h1] at e ⊢; exact lnsF_two ts us _ _ _ e
      · rw [if_neg h1] at e ⊢
        by_cases h2 : 16 < F.length ∨ acc.length = 400
        · rw [if_pos h2] at e; exact absurd e (by simp)
        · rw [if_neg h2] at e ⊢; exact lnsF_two ts us _ _ _ e
theorem lnsF_prefix : ∀ (ts : List (List UInt8)) (n : Nat) (acc L : List Lne), lnsF ts n acc = .inr L → ∃ K, L = acc ++ K
  | [], n, acc, L, e => by
    have : acc = L := by simpa [lnsF] using e
    exact ⟨[], by rw [this]; simp⟩
  | t :: ts, n, acc, L, e => by
    cases ho : oneL t with
    | none => rw [lnsF_none ho] at e; exact absurd e (by simp)
    | some F =>
      rw [lnsF_some ho] at e
      by_cases h1 : F.length = 0
      · rw [if_pos h1] at e; exact lnsF_prefix ts _ _ _ e
      · rw [if_neg h1] at e
        by_cases h2 : 16 < F.length ∨ acc.length = 400
        · rw [if_pos h2] at e; exact absurd e (by simp)
        · rw [if_neg h2] at e
          obtain ⟨K, hK⟩ := lnsF_prefix ts _ _ _ e
          exact ⟨((n : Int) + 1, F) :: K, by rw [hK]; simp⟩
theorem lnsF_other : ∀ (ts : List (List UInt8)) (n m : Nat) (acc acc' K : List Lne), lnsF ts n acc = .inr (acc ++ K) → acc'.length + K.length ≤ 400 → ∃ M, lnsF ts m acc' = .inr (acc' ++ M) ∧ M.map (fun p => p.2) = K.map (fun p => p.2)
  | [], n, m, acc, acc', K, e, hl => by
    have : acc = acc ++ K := by simpa [lnsF] using e
    have hK : K = [] := by
      have := congrArg List.length this
      rw [List.length_append] at this
      exact List.eq_nil_of_length_eq_zero (by omega)
    subst hK
    exact ⟨[], by simp [lnsF], rfl⟩
  | t :: ts, n, m, acc, acc', K, e, hl => by
    cases ho : oneL t with
    | none => rw [lnsF_none ho] at e; exact absurd e (by simp)
    | some F =>
      rw [lnsF_some ho] at e ⊢
      by_cases h1 : F.length = 0
      · rw [if_pos h1] at e ⊢; exact lnsF_other ts _ _ _ _ K e hl
      · rw [if_neg h1] at e ⊢
        by_cases h2 : 16 < F.length ∨ acc.length = 400
        · rw [if_pos h2] at e; exact absurd e (by simp)
        · rw [if_neg h2] at e
          obtain ⟨K', hK⟩ := lnsF_prefix ts _ _ _ e
          have hK2 : K = ((n : Int) + 1, F) :: K' := by
            rw [List.append_assoc] at hK
            exact List.append_cancel_left hK
          subst hK2
          rw [List.length_cons] at hl
          rw [hK] at e
          obtain ⟨M, e1, e2⟩ := lnsF_other ts (n + 1) (m + 1) _ (acc' ++ [((m : Int) + 1, F)]) K' e (by rw [List.length_append]; show _ + 1 + _ ≤ _; omega)
          refine ⟨((m : Int) + 1, F) :: M, ?_, by rw [List.map_cons, List.map_cons, e2]⟩
          rw [if_neg (by omega), e1]; simp
theorem two_same {a b : ByteArray} {L K : List Lne} (ha : lnsS a = .inr L) (hb : lnsS b = .inr K) (hz : a.size + 1 + b.size ≤ 8192) (hl : L.length + K.length ≤ 400) :
    ∃ M, lnsS (a ++ ⟨#[10]⟩ ++ b) = .inr (L ++ M) ∧ M.map (fun p => p.2) = K.map (fun p => p.2) := by
  have hsz : (a ++ ⟨#[10]⟩ ++ b).size = a.size + 1 + b.size := by rw [ByteArray.size_append, ByteArray.size_append]; rfl
  have e : (a ++ ⟨#[10]⟩ ++ b).data.toList = a.data.toList ++ 10 :: b.data.toList := by rw [ByteArray.data_append, ByteArray.data_append]; simp
  have ha2 : lnsF (pieces [] a.data.toList) 0 [] = .inr L := by
    unfold lnsS at ha
    rw [if_neg (by omega)] at ha; exact ha
  have hb2 : lnsF (pieces [] b.data.toList) 0 [] = .inr ([] ++ K) := by
    unfold lnsS at hb
    rw [if_neg (by omega)] at hb; exact hb
  obtain ⟨M, e1, e2⟩ := lnsF_other _ 0 (0 + (pieces [] a.data.toList).length) [] L K hb2 hl
  refine ⟨M, ?_, e2⟩
  unfold lnsS
  rw [if_neg (by omega), e, pieces_two, lnsF_two _ _ _ _ _ ha2, e1]

theorem OwnL.grown {W W3 : World} {b b2 n : Nat} {ty : TypeId} {v r : Value} {l : List LnV} {xs : List Value} (h : OwnL W b ty v l) (o : W.ownsRow b2 79 2 r n xs) (hg : W.grownBy W3 r.ownBlock) (ht : ty ≠ 79) : OwnL W3 b ty v l :=
  ⟨h.1.kept hg (own_apart h.1 o ht), fun p hp => (h.2 p hp).kept hg (own_apart (h.2 p hp) o (by decide))⟩
theorem Mx.grown {W W3 : World} {base n : Nat} {r : Value} {xs : List Value} (h : Mx W) (o : W.ownsRow base 79 2 r n xs) (hb : 1 < base) (hg : W.grownBy W3 r.ownBlock) : Mx W3 := by
  obtain ⟨m, hm⟩ := h
  exact ⟨m, hg.cell hm (fun e => by have := (o.lt _ e.symm).1; simp at this; omega)⟩
theorem flat_one {W : World} {b : Nat} {ty : TypeId} {v : Value} {l : List LnV} (h : OwnL W b ty v l) : ∀ u ∈ flatL l, u.oneCell' = true := by
  have h2 := h.2
  clear h
  induction l with
  | nil => intro u hu; cases hu
  | cons p l ih =>
    intro u hu
    rcases List.mem_cons.1 hu with hu | hu
    · subst hu; rfl
    · rcases List.mem_cons.1 hu with hu | hu
      · obtain ⟨a, c, e⟩ := row_form (h2 p List.mem_cons_self)
        rw [hu, e]; rfl
      · exact ih (fun q hq => h2 q (List.mem_cons_of_mem _ hq)) u hu
/-- what is carried along. -/
def TwoI (w W : World) (v u x : Value) (l k q : List LnV) : Prop := OwnL W w.heap.size 78 v l ∧ OwnL W w.heap.size 78 u k ∧ OwnL W w.heap.size 78 x q ∧ Mx W ∧ Below w.heap.size w W ∧ 1 < w.heap.size
theorem TwoI.below {w W W1 : World} {v u x : Value} {l k q : List LnV} (h : TwoI w W v u x l k q) (hb : Below W.heap.size W W1) : TwoI w W1 v u x l k q :=
  ⟨h.1.below hb, h.2.1.below hb, h.2.2.1.below hb, h.2.2.2.1.below hb, h.2.2.2.2.1.trans (hb.mono h.2.2.2.2.1.size), h.2.2.2.2.2⟩
theorem TwoI.grown {w W W3 : World} {v u x r : Value} {l k q : List LnV} {n : Nat} {xs : List Value} (h : TwoI w W v u x l k q) (o : W.ownsRow w.heap.size 79 2 r n xs) (hg : W.grownBy W3 r.ownBlock) : TwoI w W3 v u x l k q :=
  ⟨h.1.grown o hg (by decide), h.2.1.grown o hg (by decide), h.2.2.1.grown o hg (by decide), h.2.2.2.1.grown o h.2.2.2.2.2 hg, Below.grown h.2.2.2.2.1 hg h.2.2.2.2.1.size (fun k hk => (o.lt _ hk).1), h.2.2.2.2.2⟩
theorem Mx.lt {w : World} (h : Mx w) : 1 < w.heap.size := by
  obtain ⟨m, hm⟩ := h
  exact World.block_lt_of_cell? w _ hm
/-- two rows, one behind the other. -/
theorem OwnL.join {W W3 : World} {b : Nat} {r v r' : Value} {l k : List LnV} (h : OwnL W b 79 r l) (h2 : OwnL W b 79 v k) (hg : W.grownBy W3 r.ownBlock) (ho : W3.ownsRow b 79 2 r' (l.length + k.length) (flatL l ++ flatL k)) : OwnL W3 b 79 r' (l ++ k) := by
  refine ⟨by rw [flatL_append, List.length_append]; exact ho, fun p hp => ?_⟩
  rcases List.mem_append.1 hp with hp | hp
  · exact (h.2 p hp).kept hg (own_apart (h.2 p hp) h.1 (by decide))
  · exact (h2.2 p hp).kept hg (own_apart (h2.2 p hp) h.1 (by decide))

set_option maxRecDepth 1000000 in
set_option maxHeartbeats 8000000 in
theorem core_LineTwo_main (a b : ByteArray) (L K M : List Lne) (hG1 : lnsS a = .inr L) (hG2 : lnsS b = .inr K) (hG3 : lnsS (a ++ ⟨#[10]⟩ ++ b) = .inr (L ++ M)) (hMK : M.map (fun p => p.2) = K.map (fun p => p.2)) (hz : a.size + 1 + b.size ≤ 8192) (hl : L.length + K.length ≤ 400) (w : World) (hM : Mx w) :
    Calls Tryd.prog 8 #[.string a, .string b] w fun e w' => e = .returned (.bool true) ∧ Below w.heap.size w w' := by
  obtain ⟨i0, hi, hz0, hz1, hz2⟩ := info_parts infoLineE
  have hML : M.length = K.length := by have := congrArg List.length hMK; simpa using this
  have H1 : Hid (∀ w : World, Mx w → Calls Tryd.prog 17 #[.string a] w fun e w' => Below w.heap.size w w' ∧ ∃ v l, e = .returned (.tuple #[v, .int .i64 0, .int .i64 0]) ∧ OwnL w' w.heap.size 78 v l ∧ saidL l = L) := fun w h => by
    have := lSplit_any a w h (by omega)
    rw [hG1] at this
    exact this
  have H2 : Hid (∀ w : World, Mx w → Calls Tryd.prog 17 #[.string b] w fun e w' => Below w.heap.size w w' ∧ ∃ v l, e = .returned (.tuple #[v, .int .i64 0, .int .i64 0]) ∧ OwnL w' w.heap.size 78 v l ∧ saidL l = K) := fun w h => by
    have := lSplit_any b w h (by omega)
    rw [hG2] at this
    exact this
  have hzz : (a ++ ⟨#[10]⟩ ++ b).size = a.size + 1 + b.size := by rw [ByteArray.size_append, ByteArray.size_append]; rfl
  have H3 : Hid (∀ w : World, Mx w → Calls Tryd.prog 17 #[.string (a ++ ⟨#[10]⟩ ++ b)] w fun e w' => Below w.heap.size w w' ∧ ∃ v l, e = .returned (.tuple #[v, .int .i64 0, .int .i64 0]) ∧ OwnL w' w.heap.size 78 v l ∧ saidL l = L ++ M) := fun w h => by
    have := lSplit_any (a ++ ⟨#[10]⟩ ++ b) w h (by omega)
    rw [hG3] at this
    exact this
  have z1 : a.size + (⟨#[10]⟩ : ByteArray).size ≤ 9223372036854775807 := by show a.size + 1 ≤ _; omega
  have z2 : (a ++ ⟨#[10]⟩ : ByteArray).size + b.size ≤ 9223372036854775807 := by rw [ByteArray.size_append]; show a.size + 1 + _ ≤ _; omega
  have hw1 : IntKind.i64.wrap (8192 - (a.size : Int)) = 8192 - (a.size : Int) := by rw [IntKind.wrap_i64]; omega
  have hcc : ¬ 8192 - (a.size : Int) ≤ (b.size : Int) := by omega
  clear hG1 hG2 hG3 hzz
  go_enter Tryd.func8, Tryd.ntmps8
  go_wp2_with fail
  refine (H1.out _ hM).mono ?_
  rintro e w1 ⟨hb1, v, l, rfl, hO1, hs1⟩
  have M1 := hM.below hb1
  clear H1
  go_wp2_with fail
  refine (H2.out _ M1).mono ?_
  rintro e w2 ⟨hb2, u, k, rfl, hO2, hs2⟩
  have M2 := M1.below hb2
  have HB2 : Hid (Below w.heap.size w w2) := hb1.trans (hb2.mono hb1.size)
  have HL2 : Hid (OwnL w2 w.heap.size 78 v l) := hO1.below hb2
  have HK2 : Hid (OwnL w2 w.heap.size 78 u k) := hO2.lower hb1.size
  have hll := said_len hs1
  have hkl := said_len hs2
  have hmx := hM.lt
  clear H2 M1 hb1 hb2 hO1 hO2 hM
  obtain ⟨n1, hn1⟩ : ∃ n, l.length = n := ⟨_, rfl⟩
  obtain ⟨n2, hn2⟩ : ∃ n, k.length = n := ⟨_, rfl⟩
  have hn4 : n1 + n2 ≤ 400 := by omega
  obtain ⟨a1, c1, rfl⟩ := row_form (by have := HL2.out.1; rw [hn1] at this; exact this)
  obtain ⟨a2, c2, rfl⟩ := row_form (by have := HK2.out.1; rw [hn2] at this; exact this)
  have hw2 : IntKind.i64.wrap ((n1 : Int) + (n2 : Int)) = (n1 : Int) + (n2 : Int) := by rw [IntKind.wrap_i64]; omega
  have hn4' : ¬ 400 < (n1 : Int) + (n2 : Int) := by omega
  go_wp2_with fail
  refine (H3.out _ M2).mono ?_
  rintro e w3 ⟨hb3, x, q, rfl, hO3, hs3⟩
  have HI : Hid (TwoI w w3 (.slice a1 n1 c1) (.slice a2 n2 c2) x l k q) := ⟨HL2.out.below hb3, HK2.out.below hb3, hO3.lower HB2.out.size, M2.below hb3, HB2.out.trans (hb3.mono HB2.out.size), hmx⟩
  have HKY : Hid (q.map (fun p => p.2.2) = (l ++ k).map (fun p => p.2.2)) := by
    show _ = _
    rw [said_snd hs3, List.map_append, List.map_append, said_snd hs1, said_snd hs2, hMK]
  have hql : q.length ≤ 400 := by
    have := said_len hs3
    rw [List.length_append] at this
    omega
  have HN1 : Hid (l.length = n1 ∧ k.length = n2) := ⟨hn1, hn2⟩
  clear H3 M2 hb3 hO3 hs1 hs2 hs3 HB2 HL2 HK2 hll hkl hmx hMK hML hl hz
  generalize Value.slice a1 n1 c1 = v at *
  generalize Value.slice a2 n2 c2 = u at *
  go_upto_region 9 with fail
  go_cut [14] (fun p W => ∃ r, r = p ∧ TwoI w W v u x l k q ∧ OwnL W w.heap.size 79 r l)
  case first =>
    go_wp2_with fail
    refine (ltaken_any l v w.heap.size _ (by omega) HI.out.2.2.2.2.1.size HI.out.1).mono ?_
    rintro e w4 ⟨hb4, v', rfl, hO4⟩
    have HI4 : Hid (TwoI w w4 v u x l k q) := HI.out.below hb4
    have HO4 : Hid (OwnL w4 w.heap.size 79 v' l) := hO4
    clear HI hb4 hO4
    have HR4 : Hid (w4.ownsRow w.heap.size 79 2 v' n1 (flatL l)) := by have := HO4.out.1; rw [hn1] at this; exact this
    rcases HR4.out.2 with ⟨e5, h0⟩ | ⟨g5, cap5, cur5, e5, _, _, _, _, _, _⟩
    · subst e5
      go_wp2_with (first
        | (at_builtin; refine wpList_append_own_none rfl _ _ 40 rfl w.heap.size 79 i0 2 Tryd.underlying40 hi _ 0 [] rfl (World.ownsRow_nil _ _ _ _) rfl ?_))
      go_meet
      case rel => exact ⟨_, rfl, HI4.out, HO4.out⟩
    · subst e5
      go_wp2_with (first
        | (at_builtin; refine wpList_append_own _ rfl _ _ 40 rfl w.heap.size 79 i0 zLine 2 32 Tryd.underlying40 hi hz0 hz1 hz2 rfl (by decide) _ 0 [] rfl (World.ownsRow_nil _ _ _ _) ⟨g5, 0, none⟩ n1 cap5 (flatL l) rfl (by rw [flatL_length, hn1]) (HR4.out.cells rfl) (flat_one HO4.out) (by unfold maxLen; omega) (by omega) HI4.out.2.2.2.2.1.size ?_; intro v' w5 hown' hgrow3 hnil3
           have HJ : Hid (TwoI w w5 v u x l k q ∧ OwnL w5 w.heap.size 79 v' l) := ⟨HI4.out.grown (World.ownsRow_nil _ _ _ _) hgrow3, by have := (OwnL.nil w4 w.heap.size 79).join HO4.out hgrow3 (by rw [hn1]; exact hown'); simpa using this⟩
           clear hown' hgrow3 hnil3))
      go_meet
      case rel => exact ⟨_, rfl, HJ.out.1, HJ.out.2⟩
  case rest =>
    clear HI
    obtain ⟨r, rfl, hI, hO⟩ := hcut
    have HI : Hid (TwoI w wc v u x l k q) := hI
    have HR : Hid (OwnL wc w.heap.size 79 r l) := hO
    clear hI hO
    go_upto_region 10 with fail
    go_cut [14] (fun p W => ∃ r, r = p ∧ TwoI w W v u x l k q ∧ OwnL W w.heap.size 79 r (l ++ k))
    case first =>
      go_wp2_with fail
      refine (ltaken_any k u w.heap.size _ (by omega) HI.out.2.2.2.2.1.size HI.out.2.1).mono ?_
      rintro e w4 ⟨hb4, v', rfl, hO4⟩
      have HI4 : Hid (TwoI w w4 v u x l k q) := HI.out.below hb4
      have HO4 : Hid (OwnL w4 w.heap.size 79 v' k) := hO4
      have HR4 : Hid (OwnL w4 w.heap.size 79 r l) := HR.out.below hb4
      clear HI hb4 hO4 HR
      have HV4 : Hid (w4.ownsRow w.heap.size 79 2 v' n2 (flatL k)) := by have := HO4.out.1; rw [hn2] at this; exact this
      have HS4 : Hid (w4.ownsRow w.heap.size 79 2 r n1 (flatL l)) := by have := HR4.out.1; rw [hn1] at this; exact this
      rcases HV4.out.2 with ⟨e5, h0⟩ | ⟨g5, cap5, cur5, e5, _, _, _, _, _, _⟩
      · subst e5
        have ek : k = [] := List.eq_nil_of_length_eq_zero (by omega)
        have HK : Hid (l ++ k = l) := by show _ = _; rw [ek]; simp
        go_wp2_with (first
          | (at_builtin; refine wpList_append_own_none rfl _ _ 40 rfl w.heap.size 79 i0 2 Tryd.underlying40 hi _ n1 (flatL l) rfl HS4.out rfl ?_))
        go_meet
        case rel => exact ⟨_, rfl, HI4.out, by rw [HK.out]; exact HR4.out⟩
      · subst e5
        go_wp2_with (first
          | (at_builtin; refine wpList_append_own _ rfl _ _ 40 rfl w.heap.size 79 i0 zLine 2 32 Tryd.underlying40 hi hz0 hz1 hz2 rfl (by decide) _ n1 (flatL l) rfl HS4.out ⟨g5, 0, none⟩ n2 cap5 (flatL k) rfl (by rw [flatL_length, hn2]) (HV4.out.cells rfl) (flat_one HO4.out) (by unfold maxLen; omega) (by omega) HI4.out.2.2.2.2.1.size ?_; intro v' w5 hown' hgrow3 hnil3
             have HJ : Hid (TwoI w w5 v u x l k q ∧ OwnL w5 w.heap.size 79 v' (l ++ k)) := ⟨HI4.out.grown HS4.out hgrow3, HR4.out.join HO4.out hgrow3 (by rw [hn1, hn2]; exact hown')⟩
             clear hown' hgrow3 hnil3))
        go_meet
        case rel => exact ⟨_, rfl, HJ.out.1, HJ.out.2⟩
    case rest =>
      clear HI HR
      obtain ⟨r2, rfl, hI, hO⟩ := hcut
      have HI : Hid (TwoI w wc v u x l k q) := hI
      have HR : Hid (OwnL wc w.heap.size 79 r2 (l ++ k)) := hO
      clear hI hO
      go_wp2_with fail
      refine (ltaken_any q x w.heap.size _ hql HI.out.2.2.2.2.1.size HI.out.2.2.1).mono ?_
      rintro e w4 ⟨hb4, x', rfl, hO4⟩
      have HI4 : Hid (TwoI w w4 v u x l k q) := HI.out.below hb4
      have HO4 : Hid (OwnL w4 w.heap.size 79 x' q) := hO4
      have HR4 : Hid (OwnL w4 w.heap.size 79 r2 (l ++ k)) := HR.out.below hb4
      clear HI HR hb4 hO4
      go_wp2_with fail
      refine (esame_yes q (l ++ k) x' r2 w.heap.size w.heap.size false _ hql HO4.out HR4.out HKY.out (fun h => absurd h (by decide))).mono ?_
      rintro e w5 ⟨rfl, hb5⟩
      have HI5 : Hid (TwoI w w5 v u x l k q) := HI4.out.below hb5
      clear HI4 HO4 HR4 hb5
      go_wp2_with fail
      refine (lknown_any _ HI5.out.2.2.2.1).mono ?_
      rintro e w6 ⟨rfl, hb6⟩
      have HB6 : Hid (Below w.heap.size w w6) := (HI5.out.below hb6).2.2.2.2.1
      clear HI5 hb6
      go_wp2_with fail
      go_ret
      exact ⟨rfl, HB6.out⟩

set_option maxRecDepth 1000000 in
set_option maxHeartbeats 8000000 in
theorem core_LineTwo_bad1 (a b : ByteArray) (r1 r2 : Int) (hr : r2 ≠ 0) (hG1 : lnsS a = .inl (r1, r2)) (ha9 : a.size ≤ 140737488351232) (hb9 : b.size ≤ 140737488351232) (w : World) (hM : Mx w) :
    Calls Tryd.prog 8 #[.string a, .string b] w fun e w' => e = .returned (.bool true) ∧ Below w.heap.size w w' := by
  have H1 : Hid (∀ w : World, Mx w → Calls Tryd.prog 17 #[.string a] w fun e w' => Below w.heap.size w w' ∧ e = .returned (.tuple #[.slice none 0 0, .int .i64 r1, .int .i64 r2])) := fun w h => by
    have := lSplit_any a w h ha9
    rw [hG1] at this
    exact this
  have H2 : Hid (∀ w : World, Mx w → Calls Tryd.prog 17 #[.string b] w fun e w' => Below w.heap.size w w' ∧ ∃ v x y, e = .returned (.tuple #[v, .int .i64 x, .int .i64 y])) := fun w h => (lSplit_any b w h hb9).mono fun e w' ⟨q1, q2⟩ => by
    obtain ⟨v, l, e1, _, _⟩ := split_all q2
    exact ⟨q1, v, _, _, e1⟩
  have hr1 : (r2 == 0) = false := by rw [beq_eq_false_iff_ne]; exact hr
  have hr2 : (r2 != 0) = true := by rw [bne_iff_ne]; exact hr
  clear hG1
  go_enter Tryd.func8, Tryd.ntmps8
  go_wp2_with fail
  refine (H1.out _ hM).mono ?_
  rintro e w1 ⟨hb1, rfl⟩
  have M1 := hM.below hb1
  clear H1
  go_wp2_with fail
  refine (H2.out _ M1).mono ?_
  rintro e w2 ⟨hb2, v, x, y, rfl⟩
  have M2 := M1.below hb2
  have HB2 : Hid (Below w.heap.size w w2) := hb1.trans (hb2.mono hb1.size)
  clear H2 M1 hb1 hb2 hM
  go_wp2_with fail
  refine (lknown_any _ M2).mono ?_
  rintro e w9 ⟨rfl, hb9⟩
  have HB9 : Hid (Below w.heap.size w w9) := HB2.out.trans (hb9.mono HB2.out.size)
  clear HB2 hb9
  go_wp2_with fail
  go_ret
  exact ⟨rfl, HB9.out⟩

set_option maxRecDepth 1000000 in
set_option maxHeartbeats 8000000 in
theorem core_LineTwo_bad2 (a b : ByteArray) (L : List Lne) (r1 r2 : Int) (hr : r2 ≠ 0) (hG1 : lnsS a = .inr L) (hG2 : lnsS b = .inl (r1, r2)) (ha9 : a.size ≤ 140737488351232) (hb9 : b.size ≤ 140737488351232) (w : World) (hM : Mx w) :
    Calls Tryd.prog 8 #[.string a, .string b] w fun e w' => e = .returned (.bool true) ∧ Below w.heap.size w w' := by
  have H1 : Hid (∀ w : World, Mx w → Calls Tryd.prog 17 #[.string a] w fun e w' => Below w.heap.size w w' ∧ ∃ v, e = .returned (.tuple #[v, .int .i64 0, .int .i64 0])) := fun w h => (lSplit_any a w h ha9).mono fun e w' ⟨q1, q2⟩ => by
    rw [hG1] at q2
    obtain ⟨v, l, e1, _, _⟩ := q2
    exact ⟨q1, v, e1⟩
  have H2 : Hid (∀ w : World, Mx w → Calls Tryd.prog 17 #[.string b] w fun e w' => Below w.heap.size w w' ∧ e = .returned (.tuple #[.slice none 0 0, .int .i64 r1, .int .i64 r2])) := fun w h => by
    have := lSplit_any b w h hb9
    rw [hG2] at this
    exact this
  have hr1 : (r2 == 0) = false := by rw [beq_eq_false_iff_ne]; exact hr
  have hr2 : (r2 != 0) = true := by rw [bne_iff_ne]; exact hr
  clear hG1 hG2
  go_enter Tryd.func8, Tryd.ntmps8
  go_wp2_with fail
  refine (H1.out _ hM).mono ?_
  rintro e w1 ⟨hb1, v, rfl⟩
  have M1 := hM.below hb1
  clear H1
  go_wp2_with fail
  refine (H2.out _ M1).mono ?_
  rintro e w2 ⟨hb2, rfl⟩
  have M2 := M1.below hb2
  have HB2 : Hid (Below w.heap.size w w2) := hb1.trans (hb2.mono hb1.size)
  clear H2 M1 hb1 hb2 hM
  go_wp2_with fail
  refine (lknown_any _ M2).mono ?_
  rintro e w9 ⟨rfl, hb9⟩
  have HB9 : Hid (Below w.heap.size w w9) := HB2.out.trans (hb9.mono HB2.out.size)
  clear HB2 hb9
  go_wp2_with fail
  go_ret
  exact ⟨rfl, HB9.out⟩

set_option maxRecDepth 1000000 in
set_option maxHeartbeats 8000000 in
theorem core_LineTwo_far (a b : ByteArray) (L K : List Lne) (hG1 : lnsS a = .inr L) (hG2 : lnsS b = .inr K) (hor : 8192 - (a.size : Int) ≤ (b.size : Int) ∨ (¬ 8192 - (a.size : Int) ≤ (b.size : Int) ∧ 400 < L.length + K.length)) (ha9 : a.size ≤ 8192) (hb9 : b.size ≤ 8192) (w : World) (hM : Mx w) :
    Calls Tryd.prog 8 #[.string a, .string b] w fun e w' => e = .returned (.bool true) ∧ Below w.heap.size w w' := by
  have H1 : Hid (∀ w : World, Mx w → Calls Tryd.prog 17 #[.string a] w fun e w' => Below w.heap.size w w' ∧ ∃ p c, e = .returned (.tuple #[.slice p L.length c, .int .i64 0, .int .i64 0])) := fun w h => (lSplit_any a w h (by omega)).mono fun e w' ⟨q1, q2⟩ => by
    rw [hG1] at q2
    obtain ⟨v, l, e1, e2, e3⟩ := q2
    obtain ⟨p, c, e4⟩ := row_form e2.1
    rw [said_len e3] at e4
    exact ⟨q1, p, c, by rw [e1, e4]⟩
  have H2 : Hid (∀ w : World, Mx w → Calls Tryd.prog 17 #[.string b] w fun e w' => Below w.heap.size w w' ∧ ∃ p c, e = .returned (.tuple #[.slice p K.length c, .int .i64 0, .int .i64 0])) := fun w h => (lSplit_any b w h (by omega)).mono fun e w' ⟨q1, q2⟩ => by
    rw [hG2] at q2
    obtain ⟨v, l, e1, e2, e3⟩ := q2
    obtain ⟨p, c, e4⟩ := row_form e2.1
    rw [said_len e3] at e4
    exact ⟨q1, p, c, by rw [e1, e4]⟩
  have hl1 := lnsS_le hG1
  have hl2 := lnsS_le hG2
  clear hG1 hG2
  generalize L.length = n1 at *
  generalize K.length = n2 at *
  have hw1 : IntKind.i64.wrap (8192 - (a.size : Int)) = 8192 - (a.size : Int) := by rw [IntKind.wrap_i64]; omega
  have hw2 : IntKind.i64.wrap ((n1 : Int) + (n2 : Int)) = (n1 : Int) + (n2 : Int) := by rw [IntKind.wrap_i64]; omega
  go_enter Tryd.func8, Tryd.ntmps8
  go_wp2_with fail
  refine (H1.out _ hM).mono ?_
  rintro e w1 ⟨hb1, p1, c1, rfl⟩
  have M1 := hM.below hb1
  clear H1
  go_wp2_with fail
  refine (H2.out _ M1).mono ?_
  rintro e w2 ⟨hb2, p2, c2, rfl⟩
  have M2 := M1.below hb2
  have HB2 : Hid (Below w.heap.size w w2) := hb1.trans (hb2.mono hb1.size)
  clear H2 M1 hb1 hb2 hM
  rcases hor with hor | ⟨hor, h4⟩
  · go_wp2_with fail
    refine (lknown_any _ M2).mono ?_
    rintro e w9 ⟨rfl, hb9⟩
    have HB9 : Hid (Below w.heap.size w w9) := HB2.out.trans (hb9.mono HB2.out.size)
    clear HB2 hb9
    go_wp2_with fail
    go_ret
    exact ⟨rfl, HB9.out⟩
  · have h4' : 400 < (n1 : Int) + (n2 : Int) := by omega
    go_wp2_with fail
    refine (lknown_any _ M2).mono ?_
    rintro e w9 ⟨rfl, hb9⟩
    have HB9 : Hid (Below w.heap.size w w9) := HB2.out.trans (hb9.mono HB2.out.size)
    clear HB2 hb9
    go_wp2_with fail
    go_ret
    exact ⟨rfl, HB9.out⟩

theorem core_LineTwo (a b : ByteArray) (ha9 : a.size ≤ 140737488351232) (hb9 : b.size ≤ 140737488351232) (w : World) (hM : Mx w) :
    Calls Tryd.prog 8 #[.string a, .string b] w fun e w' => e = .returned (.bool true) ∧ Below w.heap.size w w' := by
  cases hG1 : lnsS a with
  | inl r => exact core_LineTwo_bad1 a b r.1 r.2 (lnsS_err hG1) hG1 ha9 hb9 w hM
  | inr L =>
    cases hG2 : lnsS b with
    | inl r => exact core_LineTwo_bad2 a b L r.1 r.2 (lnsS_err hG2) hG1 hG2 ha9 hb9 w hM
    | inr K =>
      have h1 := lnsS_small hG1
      have h2 := lnsS_small hG2
      by_cases h : 8192 - (a.size : Int) ≤ (b.size : Int)
      · exact core_LineTwo_far a b L K hG1 hG2 (.inl h) h1 h2 w hM
      · by_cases h4 : 400 < L.length + K.length
        · exact core_LineTwo_far a b L K hG1 hG2 (.inr ⟨h, h4⟩) h1 h2 w hM
        · obtain ⟨M, e1, e2⟩ := two_same hG1 hG2 (by omega) (by omega)
          exact core_LineTwo_main a b L K M hG1 hG2 e1 e2 (by omega) (by omega) w hM

end Go.Proofs.YtebjicnjbiiioaaDoor
