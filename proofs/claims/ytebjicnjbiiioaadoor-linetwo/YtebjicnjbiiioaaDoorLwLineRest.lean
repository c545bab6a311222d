/- The walk of LineRest. -/
import Derived.Test.YtebjicnjbiiioaaDoorLwLineBack
namespace Go.Proofs.YtebjicnjbiiioaaDoor
open Go.RowKit
set_option linter.unusedVariables false

def okT32 (c : UInt8) : Prop := 32 ≤ c.toNat ∧ c.toNat ≤ 126
theorem kind_left {c : UInt8} (h : okT32 c) : kindN c.toNat false ≠ 0 := by
  obtain ⟨h1, h2⟩ := h
  unfold kindN
  repeat' split
  all_goals first | omega | (rename_i h; simp at h) | skip
theorem run_lefts : ∀ (t : List UInt8) (s : LSt), s.lf = true → s.qu = false → (∀ c ∈ t, okT32 c) → runL t s = some s
  | [], s, _, _, _ => rfl
  | c :: t, s, h1, h2, h => by
    rw [run_left (by rw [h2]; exact kind_left (h c List.mem_cons_self)) h1]
    exact run_lefts t s h1 h2 (fun x hx => h x (List.mem_cons_of_mem _ hx))
theorem rest_one {p t : List UInt8} {F : List ByteArray} (h : oneL p = some F) (ht : ∀ c ∈ t, okT32 c) : oneL (p ++ 35 :: t) = some F := by
  unfold oneL oneR at h ⊢
  cases hr : runL p lst0 with
  | none => rw [hr] at h; exact absurd h (by simp)
  | some s =>
    rw [hr] at h
    have h' : ends s = some F := h
    unfold ends at h'
    rw [run_append p (35 :: t) lst0 s hr]
    by_cases hq : s.qu = true
    · rw [if_pos hq] at h'; exact absurd h' (by simp)
    · rw [if_neg hq] at h'
      have hq' : s.qu = false := by simpa using hq
      have hF : fin s = F := by simpa using h'
      cases hl : s.lf
      · rw [run_mark (by rw [hq']; rfl) hl, run_lefts t ⟨s.out, s.fld, s.bg, s.qu, true⟩ rfl hq' ht]
        show ends _ = _
        unfold ends
        rw [if_neg (by rw [hq']; decide)]
        rw [← hF]
        obtain ⟨o, f, b, q, l⟩ := s
        rfl
      · rw [run_left (by rw [hq']; decide) hl, run_lefts t _ hl hq' ht]
        show ends s = _
        unfold ends
        rw [if_neg hq, hF]
theorem pieces_tail (t' : List UInt8) (h : ∀ c ∈ t', c ≠ 10) : ∀ (l cur : List UInt8), ∃ ps p, pieces cur l = ps ++ [p] ∧ pieces cur (l ++ t') = ps ++ [p ++ t']
  | [], cur => by
    refine ⟨[], cur, rfl, ?_⟩
    have hn : ∀ (x cur : List UInt8), (∀ c ∈ x, c ≠ 10) → pieces cur x = [cur ++ x] := by
      intro x
      induction x with
      | nil => intro cur _; simp [pieces]
      | cons c x ih =>
        intro cur hx
        rw [pieces, if_neg (hx c List.mem_cons_self), ih _ (fun y hy => hx y (List.mem_cons_of_mem _ hy))]
        simp
    rw [List.nil_append, hn t' cur h]; rfl
  | c :: l, cur => by
    by_cases hc : c = 10
    · obtain ⟨ps, p, e1, e2⟩ := pieces_tail t' h l []
      refine ⟨cur :: ps, p, ?_, ?_⟩
      · rw [pieces, if_pos hc, e1]; rfl
      · rw [List.cons_append, pieces, if_pos hc, e2]; rfl
    · obtain ⟨ps, p, e1, e2⟩ := pieces_tail t' h l (cur ++ [c])
      refine ⟨ps, p, ?_, ?_⟩
      · rw [pieces, if_neg hc, e1]
      · rw [List.cons_append, pieces, if_neg hc, e2]
theorem lnsF_last {p p' : List UInt8} (h : ∀ F, oneL p = some F → oneL p' = some F) : ∀ (ps : List (List UInt8)) (n : Nat) (acc L : List Lne), lnsF (ps ++ [p]) n acc = .inr L → lnsF (ps ++ [p']) n acc = .inr L
  | [], n, acc, L, e => by
    rw [List.nil_append] at e ⊢
    cases ho : oneL p with
    | none => rw [lnsF_none ho] at e; exact absurd e (by simp)
    | some F => rw [lnsF_some ho] at e; rw [lnsF_some (h F ho)]; exact e
  | t :: ps, n, acc, L, e => by
    rw [List.cons_append] at e ⊢
    cases ho : oneL t with
    | none => rw [lnsF_none ho] at e; exact absurd e (by simp)
    | some F =>
      rw [lnsF_some ho] at e ⊢
      by_cases h1 : F.length = 0
      · rw [if_pos h1] at e ⊢; exact lnsF_last h ps _ _ _ e
      · rw [if_neg h1] at e ⊢
        by_cases h2 : 16 < F.length ∨ acc.length = 400
        · rw [if_pos h2] at e; exact absurd e (by simp)
        · rw [if_neg h2] at e ⊢; exact lnsF_last h ps _ _ _ e
theorem rest_same {s t : ByteArray} {L : List Lne} (h : lnsS s = .inr L) (hz : s.size + 1 + t.size ≤ 8192) (ht : ∀ c ∈ t.data.toList, okT32 c) : lnsS (s ++ ⟨#[35]⟩ ++ t) = .inr L := by
  have hsz : (s ++ ⟨#[35]⟩ ++ t).size = s.size + 1 + t.size := by rw [ByteArray.size_append, ByteArray.size_append]; rfl
  have e : (s ++ ⟨#[35]⟩ ++ t).data.toList = s.data.toList ++ 35 :: t.data.toList := by rw [ByteArray.data_append, ByteArray.data_append]; simp
  unfold lnsS at h ⊢
  split at h
  · exact absurd h (by simp)
  · rw [if_neg (by omega), e]
    obtain ⟨ps, p, e1, e2⟩ := pieces_tail (35 :: t.data.toList) (fun c hc => by
      rcases List.mem_cons.1 hc with rfl | hc
      · decide
      · intro q; subst q
        have := (ht 10 hc).1
        exact absurd this (by decide)) s.data.toList []
    rw [e1] at h
    rw [e2]
    exact lnsF_last (fun F hF => rest_one hF ht) ps _ _ _ h
theorem lnsS_small {s : ByteArray} {L : List Lne} (h : lnsS s = .inr L) : s.size ≤ 8192 := by
  unfold lnsS at h
  split at h
  · exact absurd h (by simp)
  · omega

set_option maxRecDepth 1000000 in
set_option maxHeartbeats 8000000 in
theorem core_LineRest (s t : ByteArray) (hs9 : s.size ≤ 140737488351232) (ht9 : t.size ≤ 140737488351232) (w : World) (hM : Mx w) :
    Calls Tryd.prog 7 #[.string s, .string t] w fun e w' => e = .returned (.bool true) ∧ Below w.heap.size w w' := by
  cases hG : lnsS s with
  | inl r =>
    have hr := lnsS_err hG
    have H1 : Hid (∀ w : World, Mx w → Calls Tryd.prog 17 #[.string s] w fun e w' => Below w.heap.size w w' ∧ e = .returned (.tuple #[.slice none 0 0, .int .i64 r.1, .int .i64 r.2])) := fun w h => by
      have := lSplit_any s w h hs9
      rw [hG] at this
      exact this
    clear hG
    obtain ⟨r1, r2⟩ := r
    simp only at hr H1
    have hr1 : (r2 == 0) = false := by rw [beq_eq_false_iff_ne]; exact hr
    have hr2 : (r2 != 0) = true := by rw [bne_iff_ne]; exact hr
    go_enter Tryd.func7, Tryd.ntmps7
    go_wp2_with fail
    refine (H1.out _ hM).mono ?_
    rintro e w1 ⟨hb1, rfl⟩
    have HB1 : Hid (Below w.heap.size w w1) := hb1
    have M1 := hM.below hb1
    clear hb1 hM H1
    go_wp2_with fail
    refine (lknown_any _ M1).mono ?_
    rintro e w2 ⟨rfl, hb2⟩
    have HB2 : Hid (Below w.heap.size w w2) := HB1.out.trans (hb2.mono HB1.out.size)
    clear HB1 hb2 M1
    go_wp2_with fail
    go_ret
    exact ⟨rfl, HB2.out⟩
  | inr L =>
    have hsm := lnsS_small hG
    have H1 : Hid (∀ w : World, Mx w → Calls Tryd.prog 17 #[.string s] w fun e w' => Below w.heap.size w w' ∧ ∃ v l, e = .returned (.tuple #[v, .int .i64 0, .int .i64 0]) ∧ OwnL w' w.heap.size 78 v l ∧ saidL l = L) := fun w h => by
      have := lSplit_any s w h hs9
      rw [hG] at this
      exact this
    have HR : Hid (s.size + 1 + t.size ≤ 8192 → (∀ c ∈ t.data.toList, okT32 c) → lnsS (s ++ ⟨#[35]⟩ ++ t) = .inr L) := fun h1 h2 => rest_same hG h1 h2
    have hL4 := (lnsS_good hG).1
    clear hG
    have hw1 : IntKind.i64.wrap (8192 - (s.size : Int)) = 8192 - (s.size : Int) := by rw [IntKind.wrap_i64]; omega
    go_enter Tryd.func7, Tryd.ntmps7
    go_wp2_with fail
    refine (H1.out _ hM).mono ?_
    rintro e w1 ⟨hb1, v, l, rfl, hO, hsaid⟩
    have HB1 : Hid (Below w.heap.size w w1) := hb1
    have M1 : Hid (Mx w1) := hM.below hb1
    have HO1 : Hid (OwnL w1 w.heap.size 78 v l) := hO
    have HSa : Hid (saidL l = L) := hsaid
    have hl4 : l.length ≤ 400 := by rw [said_len hsaid]; exact hL4
    clear hb1 hM H1 hO hsaid
    by_cases hbig : 8192 - (s.size : Int) ≤ (t.size : Int)
    · clear HR
      go_wp2_with fail
      refine (lknown_any _ M1.out).mono ?_
      rintro e w2 ⟨rfl, hb2⟩
      have HB2 : Hid (Below w.heap.size w w2) := HB1.out.trans (hb2.mono HB1.out.size)
      clear HB1 hb2 M1
      go_wp2_with fail
      go_ret
      exact ⟨rfl, HB2.out⟩
    · have HR2 : Hid ((∀ c ∈ t.data.toList, okT32 c) → lnsS (s ++ ⟨#[35]⟩ ++ t) = .inr L) := HR.out (by omega)
      have ht8 : t.size ≤ 8192 := by omega
      have hst : s.size + 1 + t.size ≤ 8192 := by omega
      clear HR
      go_wp2_with fail
      go_loopw [8] (fun i W => ∃ k : Nat, k ≤ t.size ∧ i = .int .i64 (k : Int) ∧ W = w1 ∧ Hid (∀ c ∈ t.data.toList.take k, okT32 c)) (fun i _ => t.size - (intOf i).toNat)
      case atStart => exact ⟨0, Nat.zero_le _, rfl, rfl, fun c hc => by simp at hc⟩
      case round =>
        obtain ⟨k, hk, rfl, rfl, HT⟩ := hrel
        by_cases hkt : k < t.size
        · have hkt' : (k : Int) < (t.size : Int) := by omega
          have hkw : IntKind.i64.wrap ((k : Int) + 1) = (k : Int) + 1 := by rw [IntKind.wrap_i64]; omega
          obtain ⟨c, hc1, hc2⟩ := drop_at hkt
          have hix := ixL t k c _ hkt hc2 rfl
          have hc3 : t.data.toList[k]? = some c := by
            have hl : k < t.data.toList.length := by simpa using hkt
            rw [List.getElem?_eq_getElem hl]
            have := List.drop_eq_getElem_cons hl
            rw [hc1] at this
            rw [(List.cons.inj this).1]
          by_cases ho : 32 ≤ c.toNat ∧ c.toNat ≤ 126
          · have HT2 : Hid (∀ c ∈ t.data.toList.take (k + 1), okT32 c) := fun x hx => by
              rw [List.take_add_one, hc3] at hx
              rcases List.mem_append.1 hx with hx | hx
              · exact HT.out x hx
              · have : x = c := by simpa using hx
                rw [this]; exact ho
            have a1 : ¬ (c.toNat : Int) < 32 := by omega
            have a2 : ¬ 126 < (c.toNat : Int) := by omega
            clear hc1 hc2 hc3 ho HT
            generalize (c.toNat : Int) = C at *
            go_wp2_with fail
            go_roundw
            case rel => exact ⟨k + 1, by omega, by go_num, trivial, HT2⟩
            case measure => simp [intOf]; omega
          · have hor : (c.toNat : Int) < 32 ∨ (¬ (c.toNat : Int) < 32 ∧ 126 < (c.toNat : Int)) := by omega
            clear hc1 hc2 hc3 ho HT HR2
            generalize (c.toNat : Int) = C at *
            rcases hor with a1 | ⟨a1, a2⟩
            all_goals
              go_wp2_with fail
              refine (lknown_any _ M1.out).mono ?_
              rintro e w2 ⟨rfl, hb2⟩
              have HB2 : Hid (Below w.heap.size w w2) := HB1.out.trans (hb2.mono HB1.out.size)
              clear HB1 hb2 M1
              go_wp2_with fail
              go_ret
              exact ⟨rfl, HB2.out⟩
        · have hkt' : ¬ (k : Int) < (t.size : Int) := by omega
          have eT : lnsS (s ++ ⟨#[35]⟩ ++ t) = .inr L := HR2.out (fun c hc => HT.out c (by rw [List.take_of_length_le (by simp; omega)]; exact hc))
          have hzz : (s ++ ⟨#[35]⟩ ++ t).size = s.size + 1 + t.size := by rw [ByteArray.size_append, ByteArray.size_append]; rfl
          have z1 : s.size + (⟨#[35]⟩ : ByteArray).size ≤ 9223372036854775807 := by show s.size + 1 ≤ _; omega
          have z2 : (s ++ ⟨#[35]⟩ : ByteArray).size + t.size ≤ 9223372036854775807 := by rw [ByteArray.size_append]; show s.size + 1 + _ ≤ _; omega
          have H2 : Hid (∀ w : World, Mx w → Calls Tryd.prog 17 #[.string (s ++ ⟨#[35]⟩ ++ t)] w fun e w' => Below w.heap.size w w' ∧ ∃ v l, e = .returned (.tuple #[v, .int .i64 0, .int .i64 0]) ∧ OwnL w' w.heap.size 78 v l ∧ saidL l = L) := fun w h => by
            have := lSplit_any (s ++ ⟨#[35]⟩ ++ t) w h (by omega)
            rw [eT] at this
            exact this
          clear HT HR2 eT hzz
          go_wp2_with fail
          refine (H2.out _ M1.out).mono ?_
          rintro e w3 ⟨hb3, u, q, rfl, hO, hsaid⟩
          have HB3 : Hid (Below w.heap.size w w3) := HB1.out.trans (hb3.mono HB1.out.size)
          have M3 : Hid (Mx w3) := M1.out.below hb3
          have HO3 : Hid (OwnL w3 w.heap.size 78 v l) := HO1.out.below hb3
          have HU3 : Hid (OwnL w3 w.heap.size 78 u q) := hO.lower HB1.out.size
          have hk4 : q.length ≤ 400 := by rw [said_len hsaid]; exact hL4
          have HTl : Hid (∀ W : World, OwnL W w.heap.size 78 v l → w.heap.size ≤ W.heap.size → Calls Tryd.prog 20 #[v] W fun e w' => Below W.heap.size W w' ∧ ∃ v', e = .returned v' ∧ OwnL w' w.heap.size 79 v' l) := fun W h1 h2 => ltaken_any l v w.heap.size W hl4 h2 h1
          have HTk : Hid (∀ W : World, OwnL W w.heap.size 78 u q → w.heap.size ≤ W.heap.size → Calls Tryd.prog 20 #[u] W fun e w' => Below W.heap.size W w' ∧ ∃ v', e = .returned v' ∧ OwnL w' w.heap.size 79 v' q) := fun W h1 h2 => ltaken_any q u w.heap.size W hk4 h2 h1
          have HSm : Hid (∀ (W : World) (v1 v2 : Value), OwnL W w.heap.size 79 v1 l → OwnL W w.heap.size 79 v2 q → Calls Tryd.prog 19 #[v1, v2, .bool true] W fun e w' => e = .returned (.bool true) ∧ Below W.heap.size W w') := fun W v1 v2 h1 h2 => by
            obtain ⟨k1, k2⟩ := said_keys (HSa.out.trans hsaid.symm)
            exact esame_yes l q v1 v2 _ _ true W hl4 h1 h2 k1 (fun _ => k2)
          clear H2 hb3 hO hsaid HB1 M1 HO1 hk4 hl4 HSa
          go_wp2_with fail
          refine (HTl.out _ HO3.out HB3.out.size).mono ?_
          rintro e w4 ⟨hb4, v', rfl, hO4⟩
          have HB4 : Hid (Below w.heap.size w w4) := HB3.out.trans (hb4.mono HB3.out.size)
          have M4 : Hid (Mx w4) := M3.out.below hb4
          have HU4 : Hid (OwnL w4 w.heap.size 78 u q) := HU3.out.below hb4
          have HV4 : Hid (OwnL w4 w.heap.size 79 v' l) := hO4
          clear HTl hb4 hO4 HB3 M3 HO3 HU3
          go_wp2_with fail
          refine (HTk.out _ HU4.out HB4.out.size).mono ?_
          rintro e w5 ⟨hb5, u', rfl, hO5⟩
          have HB5 : Hid (Below w.heap.size w w5) := HB4.out.trans (hb5.mono HB4.out.size)
          have M5 : Hid (Mx w5) := M4.out.below hb5
          have HV5 : Hid (OwnL w5 w.heap.size 79 v' l) := HV4.out.below hb5
          have HU5 : Hid (OwnL w5 w.heap.size 79 u' q) := hO5
          clear HTk hb5 hO5 HB4 M4 HU4 HV4
          go_wp2_with fail
          refine (HSm.out _ _ _ HV5.out HU5.out).mono ?_
          rintro e w6 ⟨rfl, hb6⟩
          have HB6 : Hid (Below w.heap.size w w6) := HB5.out.trans (hb6.mono HB5.out.size)
          have M6 : Hid (Mx w6) := M5.out.below hb6
          clear HSm hb6 HB5 M5 HV5 HU5
          go_wp2_with fail
          refine (lknown_any _ M6.out).mono ?_
          rintro e w7 ⟨rfl, hb7⟩
          have HB7 : Hid (Below w.heap.size w w7) := HB6.out.trans (hb7.mono HB6.out.size)
          clear HB6 hb7 M6
          go_wp2_with fail
          go_ret
          exact ⟨rfl, HB7.out⟩

end Go.Proofs.YtebjicnjbiiioaaDoor
