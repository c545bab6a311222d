/- Contracts of the reference's Lower, Same, Short, Month and Day. -/
import Derived.Test.YtgnfkkcagbbhmaaGreatDoorWdBq
import Derived.Test.YtgnfkkcagbbhmaaGreatDoorWdFq
namespace Go.Proofs.YtgnfkkcagbbhmaaGreatDoor.Wrd
open Go.RowKit
set_option linter.unusedVariables false

theorem infoU8 : (Tryz.prog.info? 5).map (fun i => (i.zero, i.size, i.bytes)) = some (some (.int .u8 0), 1, 1) := by kernel_rfl
/-- bytes as cells. -/
def cellsU (l : List UInt8) : List Value := l.map fun b => Value.int .u8 (b.toNat : Int)
theorem cellsU_snoc (l : List UInt8) (c : UInt8) : cellsU (l ++ [c]) = cellsU l ++ [.int .u8 (c.toNat : Int)] := by simp [cellsU]
theorem one_new (w : World) (a : Value) (t : TypeId) : ∀ j u, [a][j]? = some u → (w.alloc (.cells #[a] t)).cell? ((⟨w.heap.size, 0, none⟩ : Addr).add j) = some u := by
  intro j u hj
  match j, hj with
  | 0, hj => simp at hj; subst hj; simp [Addr.add]
  | j + 1, hj => simp at hj
theorem one_one (m : Int) : ∀ u ∈ [Value.int .u8 m], u.oneCell' = true := by
  intro x hx; simp at hx; subst hx; rfl
/-- the small letters of the first bytes. -/
def lowT (s : ByteArray) (i : Nat) : List UInt8 := (s.data.toList.take i).map lowC
theorem lowT_snoc (s : ByteArray) (i : Nat) (h : i < s.size) : lowT s (i + 1) = lowT s i ++ [lowC (s[i]'h)] := by
  unfold lowT
  rw [List.take_add_one, (bt_get s i h).1]
  simp
theorem lowT_length (s : ByteArray) (i : Nat) (h : i ≤ s.size) : (lowT s i).length = i := by
  unfold lowT; rw [List.length_map, List.length_take, sz]; omega
theorem lowT_all (s : ByteArray) : (⟨(lowT s s.size).toArray⟩ : ByteArray) = lowB s := by
  unfold lowT lowB; rw [List.take_of_length_le (by rw [sz]; exact Nat.le_refl _), ← Array.toList_map]
theorem ret_str {a b : ByteArray} (h : a = b) : Ending.returned (.string a) = .returned (.string b) := by rw [h]
theorem convert_nil (w : World) : (convert 123 9 (.slice none 0 0)).run Tryz.prog w = .ok (.string ⟨#[]⟩) w := by
  rw [run_convert_bytes_string w 123 9 5 none 0 0 Tryz.underlying123 Tryz.underlying5 Tryz.underlying9]
  simp [Conv.bytesToString]
  rfl

set_option maxRecDepth 1000000 in
set_option maxHeartbeats 4000000 in
theorem rlower_any (s : ByteArray) (hs : s.size ≤ 140737488351232) (w : World) :
    Calls Tryz.prog 85 #[.string s] w fun e w' => e = .returned (.string (lowB s)) ∧ Below w.heap.size w w' := by
  obtain ⟨i0, hi, hz0, hz1, hz2⟩ := info_parts infoU8
  go_enter Tryz.func85, Tryz.ntmps85
  go_wp2_with fail
  go_loopw [3, 4] (fun v iv W => ∃ i : Nat, i ≤ s.size ∧ iv = .int .i64 (i : Int) ∧ W.ownsRow w.heap.size 5 1 v i (cellsU (lowT s i)) ∧ Below w.heap.size w W) (fun _ iv _ => s.size - (intOf iv).toNat)
  case atStart => exact ⟨0, Nat.zero_le _, rfl, World.ownsRow_nil _ _ _ _, Below.refl _ _⟩
  case round =>
    obtain ⟨i, hil, rfl, ho, B⟩ := hrel
    have HO : Hid (wr.ownsRow w.heap.size 5 1 u3 i (cellsU (lowT s i))) := ho
    have HB : Hid (Below w.heap.size w wr) := B
    clear ho B
    by_cases hp : i < s.size
    · have hp' : (i : Int) < (s.size : Int) := by omega
      have hp0 : (0 : Int) ≤ (i : Int) := by omega
      obtain ⟨c, hc⟩ : ∃ c, s[i]'hp = c := ⟨_, rfl⟩
      have hb : ((s[i]'hp).toNat : Int) = (c.toNat : Int) := by rw [hc]
      have HC : Hid (s[i]'hp = c) := hc
      have hc2 : c.toNat < 256 := UInt8.toNat_lt _
      obtain ⟨d, hd⟩ : ∃ d, lowC c = d := ⟨_, rfl⟩
      have HD : Hid (lowC c = d) := hd
      clear hc hd
      by_cases hAZ : 65 ≤ c.toNat ∧ c.toNat ≤ 90
      · have hdv : (d.toNat : Int) = (c.toNat : Int) + 32 := by
          rw [← HD.out]; unfold lowC; rw [if_pos hAZ, low32 c hAZ]; omega
        have a1 : (65 : Int) ≤ (c.toNat : Int) := by omega
        have a2 : (c.toNat : Int) ≤ 90 := by omega
        have HV : Hid ((d.toNat : Int) = (c.toNat : Int) + 32) := hdv
        clear hdv
        rcases HO.out.2 with ⟨e0, -⟩ | ⟨g0, cap0, cur, e0, _, _, _, _, _, _⟩
        all_goals
          subst e0
          go_wp2_with (first
            | (at_builtin; refine wpList_append_own _ rfl _ _ 123 rfl w.heap.size 5 i0 (.int .u8 0) 1 1 Tryz.underlying123 hi hz0 hz1 hz2 rfl (by decide) _ i (cellsU (lowT s i)) rfl (HO.out.alloc _) ⟨wr.heap.size, 0, none⟩ 1 1 [.int .u8 ((c.toNat : Int) + 32)] rfl rfl (one_new _ _ _) (one_one _) (by unfold maxLen; omega) (by omega) (by have := HB.out.size; simp; omega) ?_; intro v' w3 hown' hgrow3 hnil3
               have HJ : Hid (w3.ownsRow w.heap.size 5 1 v' (i + 1) (cellsU (lowT s (i + 1))) ∧ Below w.heap.size w w3) := ⟨by rw [lowT_snoc s i hp, cellsU_snoc, HC.out, HD.out, HV.out]; exact hown', Below.grown (HB.out.alloc HB.out.size _) hgrow3 (by have := HB.out.size; simp; omega) (fun k hk => by have := (HO.out.lt _ hk).1; omega)⟩
               clear hown' hgrow3 hnil3))
          go_roundw
          case rel => exact ⟨i + 1, by omega, by go_num, HJ.out.1, HJ.out.2⟩
          case measure => simp [intOf]; omega
      · have hdv : d = c := by rw [← HD.out]; unfold lowC; rw [if_neg hAZ]
        have HV : Hid (d = c) := hdv
        have hz' : (c.toNat : Int) < 65 ∨ 90 < (c.toNat : Int) := by omega
        clear hdv hAZ
        rcases hz' with hz' | hz'
        all_goals
          rcases HO.out.2 with ⟨e0, -⟩ | ⟨g0, cap0, cur, e0, _, _, _, _, _, _⟩
          all_goals
            subst e0
            try have a1 : ¬ (65 : Int) ≤ (c.toNat : Int) := by omega
            try have a2 : (65 : Int) ≤ (c.toNat : Int) := by omega
            try have a3 : ¬ (c.toNat : Int) ≤ 90 := by omega
            go_wp2_with (first
              | (at_builtin; refine wpList_append_own _ rfl _ _ 123 rfl w.heap.size 5 i0 (.int .u8 0) 1 1 Tryz.underlying123 hi hz0 hz1 hz2 rfl (by decide) _ i (cellsU (lowT s i)) rfl (HO.out.alloc _) ⟨wr.heap.size, 0, none⟩ 1 1 [.int .u8 (c.toNat : Int)] rfl rfl (one_new _ _ _) (one_one _) (by unfold maxLen; omega) (by omega) (by have := HB.out.size; simp; omega) ?_; intro v' w3 hown' hgrow3 hnil3
                 have HJ : Hid (w3.ownsRow w.heap.size 5 1 v' (i + 1) (cellsU (lowT s (i + 1))) ∧ Below w.heap.size w w3) := ⟨by rw [lowT_snoc s i hp, cellsU_snoc, HC.out, HD.out, HV.out]; exact hown', Below.grown (HB.out.alloc HB.out.size _) hgrow3 (by have := HB.out.size; simp; omega) (fun k hk => by have := (HO.out.lt _ hk).1; omega)⟩
                 clear hown' hgrow3 hnil3))
            go_roundw
            case rel => exact ⟨i + 1, by omega, by go_num, HJ.out.1, HJ.out.2⟩
            case measure => simp [intOf]; omega
    · have hp' : ¬ (i : Int) < (s.size : Int) := by omega
      obtain rfl : i = s.size := by omega
      rcases HO.out.2 with ⟨e0, z0⟩ | ⟨g, cap, cur, e0, hg, hh, h3, h4, h5, h6⟩
      · subst e0
        have hcb := convert_nil wr
        have hL : lowB s = ⟨#[]⟩ := by
          have := lowT_all s
          rw [← this, z0]
          rfl
        have HL : Hid (lowB s = ⟨#[]⟩) := hL
        clear hL z0
        go_wp2_with fail
        go_ret
        exact ⟨ret_str HL.out.symm, HB.out⟩
      · subst e0
        have hcb := run_convert_bytes_back (P := Tryz.prog) wr 123 9 5 ⟨g, 0, none⟩ cap (lowT s s.size) Tryz.underlying123 Tryz.underlying5 Tryz.underlying9 (fun j hj => by
          have := HO.out.cells (g := g) rfl j _ (by rw [cellsU, List.getElem?_map, List.getElem?_eq_getElem hj]; rfl)
          exact this)
        rw [lowT_length s s.size (Nat.le_refl _), lowT_all] at hcb
        clear hh h6
        go_wp2_with fail
        go_ret
        exact ⟨rfl, HB.out⟩

set_option maxRecDepth 100000 in
set_option maxHeartbeats 1000000 in
theorem rsame_any (a b : ByteArray) (ha : a.size ≤ 140737488351232) (hb : b.size ≤ 140737488351232) (w : World) :
    Calls Tryz.prog 54 #[.string a, .string b] w fun e w' => e = .returned (.bool (sameB a b)) ∧ Below w.heap.size w w' := by
  go_enter Tryz.func54, Tryz.ntmps54
  go_wp2_with fail
  refine (rlower_any a ha _).mono ?_
  rintro e w1 ⟨rfl, B1⟩
  go_wp2_with fail
  refine (rlower_any b hb _).mono ?_
  rintro e w2 ⟨rfl, b2⟩
  have B2 := B1.trans (b2.mono B1.size)
  clear b2 B1
  go_wp2_with fail
  go_ret
  exact ⟨ret_bool (toList_eq _ _), B2⟩

set_option maxRecDepth 100000 in
set_option maxHeartbeats 4000000 in
theorem rshort_any (s : ByteArray) (L : List ByteArray) (g cap : Nat) (w : World) (hs : s.size ≤ 140737488351232) (hL : ∀ (j : Nat) (t : ByteArray), L[j]? = some t → t.size ≤ 140737488351232) (hcap : L.length ≤ cap) (hcap2 : cap ≤ maxLen) (hT : Txt w g L) :
    Calls Tryz.prog 117 #[.string s, .slice (some ⟨g, 0, none⟩) L.length cap] w fun e w' => e = .returned (.int .i64 (shortB s L)) ∧ Below w.heap.size w w' := by
  unfold maxLen at hcap2
  obtain ⟨G, hG⟩ : ∃ G, shortB s L = G := ⟨_, rfl⟩
  rw [hG]
  by_cases h3 : s.size < 3
  · rw [short_few s L h3] at hG
    subst hG
    have h3' : ¬ (3 : Int) ≤ (s.size : Int) := by omega
    go_enter Tryz.func117, Tryz.ntmps117
    go_wp2_with fail
    go_loopw [5] (fun iv W => iv = .int .i64 0 ∧ W = w) (fun _ _ => 0)
    case atStart => exact ⟨rfl, rfl⟩
    case round =>
      obtain ⟨rfl, rfl⟩ := hrel
      go_wp2_with fail
      all_goals
        go_ret
        exact ⟨rfl, Below.refl _ _⟩
  · have h3' : (3 : Int) ≤ (s.size : Int) := by omega
    have HG : Hid (findF (fun t => beginsB s t) 0 (L.drop 0) = G) := by show _ = _; rw [List.drop_zero, ← hG, short_many s L h3]
    clear hG
    go_enter Tryz.func117, Tryz.ntmps117
    go_wp2_with fail
    go_loopw [5] (fun k wr => ∃ i : Nat, i ≤ L.length ∧ k = .int .i64 (i : Int) ∧ Below w.heap.size w wr ∧ Txt wr g L ∧ Hid (findF (fun t => beginsB s t) i (L.drop i) = G)) (fun k _ => L.length - (intOf k).toNat)
    case atStart => exact ⟨0, Nat.zero_le _, rfl, Below.refl _ _, hT, HG⟩
    case round =>
      obtain ⟨i, hi, rfl, B, T, HS⟩ := hrel
      have HB : Hid (Below w.heap.size w wr) := B
      have HT : Hid (Txt wr g L) := T
      by_cases hlt : i < L.length
      · have hlt' : (i : Int) < (L.length : Int) := by omega
        obtain ⟨t, ht⟩ : ∃ t, L[i]? = some t := ⟨L[i]'hlt, List.getElem?_eq_getElem hlt⟩
        have hc : wr.cell? ⟨g, i, none⟩ = some (.string t) := T.2 i t ht
        have hts := hL i t ht
        have HE : Hid ((if beginsB s t = true then (i : Int) else findF (fun t => beginsB s t) (i + 1) (L.drop (i + 1))) = G) := by show _ = _; rw [← HS.out, findF_step ht]
        have hbi := begins_iff s t
        have i0 : (0 : Int) ≤ (i : Int) := by omega
        have i1 : (i : Int) < 9223372036854775807 := by omega
        clear HS B T ht hT HG
        by_cases hst : s.size ≤ t.size
        · have hst' : (s.size : Int) ≤ (t.size : Int) := by omega
          have hst0 : (0 : Int) ≤ (s.size : Int) := by omega
          have hsm := rsame_any s (t.extract 0 s.size) hs (by rw [ByteArray.size_extract]; omega)
          rw [decide_eq_true hst, Bool.true_and] at hbi
          rw [← hbi] at hsm
          have HSM : Hid (∀ w : World, Calls Tryz.prog 54 #[.string s, .string (t.extract 0 s.size)] w fun e w' => e = .returned (.bool (beginsB s t)) ∧ Below w.heap.size w w') := hsm
          clear hsm hbi
          cases hq : beginsB s t with
          | true =>
            rw [hq] at HSM
            have e1 : G = (i : Int) := by rw [← HE.out, if_pos hq]
            subst e1
            clear hq
            go_wp2_with fail
            refine (HSM.out _).mono ?_
            rintro e w2 ⟨rfl, b2⟩
            have HB2 : Hid (Below w.heap.size w w2) := HB.out.trans (b2.mono HB.out.size)
            clear b2
            go_wp2_with fail
            go_ret
            exact ⟨rfl, HB2.out⟩
          | false =>
            rw [hq] at HSM
            have HF : Hid (findF (fun t => beginsB s t) (i + 1) (L.drop (i + 1)) = G) := by show _ = _; rw [← HE.out, if_neg (by rw [hq]; decide)]
            clear hq
            go_wp2_with fail
            refine (HSM.out _).mono ?_
            rintro e w2 ⟨rfl, b2⟩
            have HB2 : Hid (Below w.heap.size w w2) := HB.out.trans (b2.mono HB.out.size)
            have HT2 : Hid (Txt w2 g L) := HT.out.below b2
            clear b2
            go_wp2_with fail
            go_roundw
            case rel => exact ⟨i + 1, by omega, by go_num, HB2.out, HT2.out, HF⟩
            case measure => simp [intOf]; omega
        · have hst' : ¬ (s.size : Int) ≤ (t.size : Int) := by omega
          rw [decide_eq_false hst, Bool.false_and] at hbi
          have HF : Hid (findF (fun t => beginsB s t) (i + 1) (L.drop (i + 1)) = G) := by show _ = _; rw [← HE.out, if_neg (by rw [hbi]; decide)]
          clear hbi
          go_wp2_with fail
          go_roundw
          case rel => exact ⟨i + 1, by omega, by go_num, HB.out, HT.out, HF⟩
          case measure => simp [intOf]; omega
      · have hlt' : ¬ (i : Int) < (L.length : Int) := by omega
        have e1 : G = -1 := by rw [← HS.out, findF_end hlt]
        subst e1
        clear B T
        go_wp2_with fail
        go_ret
        exact ⟨rfl, HB.out⟩

theorem months_small2 : ∀ (j : Nat) (t : ByteArray), monthsL[j]? = some t → t.size ≤ 140737488351232 := by
  intro j t h
  have : ∀ t ∈ monthsL, t.size ≤ 20 := by decide
  have := this t (List.mem_of_getElem? h)
  omega
theorem days_small2 : ∀ (j : Nat) (t : ByteArray), daysL[j]? = some t → t.size ≤ 140737488351232 := by
  intro j t h
  have : ∀ t ∈ daysL, t.size ≤ 20 := by decide
  have := this t (List.mem_of_getElem? h)
  omega

set_option maxRecDepth 100000 in
set_option maxHeartbeats 1000000 in
theorem rmonth_any (s : ByteArray) (hs : s.size ≤ 140737488351232) (w : World) :
    Calls Tryz.prog 87 #[.string s] w fun e w' => e = .returned (.int .i64 (shortB s monthsL + 1)) ∧ Below w.heap.size w w' := by
  obtain ⟨q1, q2⟩ := short_lo s monthsL
  have q3 : (monthsL.length : Int) = 12 := rfl
  have hc := fun g w => rshort_any s monthsL g 12 w hs months_small2 (by decide) (by decide)
  obtain ⟨V, hV⟩ : ∃ V, shortB s monthsL = V := ⟨_, rfl⟩
  rw [hV] at q1 q2 hc ⊢
  have HC : Hid (∀ (g : Nat) (w : World), Txt w g monthsL → Calls Tryz.prog 117 #[.string s, .slice (some ⟨g, 0, none⟩) 12 12] w fun e w' => e = .returned (.int .i64 V) ∧ Below w.heap.size w w') := hc
  clear hc hV
  go_enter Tryz.func87, Tryz.ntmps87
  go_wp2_with fail
  refine (HC.out _ _ (Txt.new w monthsL _)).mono ?_
  rintro e w2 ⟨rfl, b2⟩
  have B2 := ((Below.refl w.heap.size w).alloc (Nat.le_refl _) _).trans (b2.mono (by simp))
  clear b2
  go_wp2_with fail
  go_ret
  exact ⟨rfl, B2⟩

set_option maxRecDepth 100000 in
set_option maxHeartbeats 1000000 in
theorem rday_any (s : ByteArray) (hs : s.size ≤ 140737488351232) (w : World) :
    Calls Tryz.prog 119 #[.string s] w fun e w' => e = .returned (.int .i64 (shortB s daysL)) ∧ Below w.heap.size w w' := by
  obtain ⟨q1, q2⟩ := short_lo s daysL
  have q3 : (daysL.length : Int) = 7 := rfl
  have hc := fun g w => rshort_any s daysL g 7 w hs days_small2 (by decide) (by decide)
  obtain ⟨V, hV⟩ : ∃ V, shortB s daysL = V := ⟨_, rfl⟩
  rw [hV] at q1 q2 hc ⊢
  have HC : Hid (∀ (g : Nat) (w : World), Txt w g daysL → Calls Tryz.prog 117 #[.string s, .slice (some ⟨g, 0, none⟩) 7 7] w fun e w' => e = .returned (.int .i64 V) ∧ Below w.heap.size w w') := hc
  clear hc hV
  go_enter Tryz.func119, Tryz.ntmps119
  go_wp2_with fail
  refine (HC.out _ _ (Txt.new w daysL _)).mono ?_
  rintro e w2 ⟨rfl, b2⟩
  have B2 := ((Below.refl w.heap.size w).alloc (Nat.le_refl _) _).trans (b2.mono (by simp))
  clear b2
  go_wp2_with fail
  go_ret
  exact ⟨rfl, B2⟩

end Go.Proofs.YtgnfkkcagbbhmaaGreatDoor.Wrd
