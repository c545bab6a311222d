/- The reference's after, pair, quoted. -/
import Derived.Laws.IdiomStrings
import Derived.Test.YtaoocecipacnhaaDoorRxVq
import Derived.Test.YtaoocecipacnhaaDoorExGq
import Derived.Test.YtaoocecipacnhaaDoorWdHq
namespace Go.Proofs.YtaoocecipacnhaaDoor
open Go.RowKit
set_option linter.unusedVariables false

def aftT (L : List Tk) (i : Nat) (a : Int) : Bool := match L[i]? with | some q => decide (q.2.2 = a) | none => false

set_option maxRecDepth 100000 in
set_option maxHeartbeats 4000000 in
theorem after_any (b cap : Nat) (L : List Tk) (i : Nat) (hi : i ≤ 5000) (a : Int) (w : World) (h : PV b 0 cap L w) :
    Calls Tryd.prog 55 #[.slice (some ⟨b, 0, none⟩) L.length cap, .int .i64 (i : Int), .int .i64 a] w fun e w' => e = .returned (.bool (aftT L i a)) ∧ w' = w := by
  have hb := h.1
  have hl := h.2.1
  have hlc := h.2.2.1
  have hc := h.2.2.2.1
  by_cases hlt : i < L.length
  · obtain ⟨q, hq⟩ : ∃ q, L[i]? = some q := ⟨L[i]'hlt, List.getElem?_eq_getElem hlt⟩
    obtain ⟨⟨-, -, c2⟩, -⟩ := h.2.2.2.2 i q hq
    rw [Nat.zero_add] at c2
    have e : aftT L i a = decide (q.2.2 = a) := by unfold aftT; rw [hq]
    rw [e]
    have hI : (i : Int) < (L.length : Int) := by omega
    have h0 : (0 : Int) ≤ (i : Int) := by omega
    have hw' : IntKind.i64.wrap (i : Int) = (i : Int) := by rw [IntKind.wrap_i64]; omega
    clear h e
    go_enter Tryd.func55, Tryd.ntmps55
    by_cases he : q.2.2 = a
    · have g : (q.2.2 == a) = true := by simpa using he
      rw [decide_eq_true he]
      go_wp2_with fail
      go_ret
      exact ⟨rfl, rfl⟩
    · have g : (q.2.2 == a) = false := by simpa using he
      rw [decide_eq_false he]
      go_wp2_with fail
      go_ret
      exact ⟨rfl, rfl⟩
  · have e : aftT L i a = false := by unfold aftT; rw [List.getElem?_eq_none (by omega)]
    rw [e]
    have hI : ¬ (i : Int) < (L.length : Int) := by omega
    clear h e
    go_enter Tryd.func55, Tryd.ntmps55
    go_wp2_with fail
    go_ret
    exact ⟨rfl, rfl⟩

set_option maxRecDepth 100000 in
set_option maxHeartbeats 4000000 in
theorem rpair_any (t : ByteArray) (w : World) :
    Calls Tryd.prog 56 #[.string t] w fun e w' => e = .returned (.bool (isPr t)) ∧ w' = w := by
  have e1 := lit_eq t [60, 61]
  have e2 := lit_eq t [62, 61]
  have e3 := lit_eq t [60, 62]
  have e4 := lit_eq t [58, 58]
  obtain ⟨B, hB⟩ : ∃ B, isPr t = B := ⟨_, rfl⟩
  rw [hB]
  unfold isPr at hB
  change (decide (t = ⟨[60, 61].toArray⟩) || decide (t = ⟨[62, 61].toArray⟩) || decide (t = ⟨[60, 62].toArray⟩) || decide (t = ⟨[58, 58].toArray⟩)) = B at hB
  rw [← e1, ← e2, ← e3, ← e4] at hB
  clear e1 e2 e3 e4
  have HB : Hid _ := hB
  clear hB
  go_enter Tryd.func56, Tryd.ntmps56
  cases h1 : (t.toList == [60, 61]) with
  | true =>
    have HV : Hid (B = true) := by show _ = _; rw [← HB.out, h1]; rfl
    go_wp2_with fail
    go_ret
    exact ⟨(by rw [HV.out]; rfl), rfl⟩
  | false =>
    cases h2 : (t.toList == [62, 61]) with
    | true =>
      have HV : Hid (B = true) := by show _ = _; rw [← HB.out, h1, h2]; rfl
      go_wp2_with fail
      go_ret
      exact ⟨(by rw [HV.out]; rfl), rfl⟩
    | false =>
      cases h3 : (t.toList == [60, 62]) with
      | true =>
        have HV : Hid (B = true) := by show _ = _; rw [← HB.out, h1, h2, h3]; rfl
        go_wp2_with fail
        go_ret
        exact ⟨(by rw [HV.out]; rfl), rfl⟩
      | false =>
        cases h4 : (t.toList == [58, 58]) with
        | true =>
          have HV : Hid (B = true) := by show _ = _; rw [← HB.out, h1, h2, h3, h4]; rfl
          go_wp2_with fail
          go_ret
          exact ⟨(by rw [HV.out]; rfl), rfl⟩
        | false =>
          have HV : Hid (B = false) := by show _ = _; rw [← HB.out, h1, h2, h3, h4]; rfl
          go_wp2_with fail
          go_ret
          exact ⟨(by rw [HV.out]; rfl), rfl⟩

/-! ### quoted -/
def byV (l : List UInt8) : List Value := l.map fun b => .int .u8 (b.toNat : Int)
theorem infoByt : (Tryd.prog.info? 5).map (fun i => (i.zero, i.size, i.bytes)) = some (some (.int .u8 0), 1, 1) := by kernel_rfl
theorem byV_get {l : List UInt8} {j : Nat} {c : UInt8} (h : l[j]? = some c) : (byV l)[j]? = some (.int .u8 (c.toNat : Int)) := by simp [byV, h]
theorem byV_more (l : List UInt8) (c : UInt8) (x : Int) (h : (c.toNat : Int) = x) : byV (l ++ [c]) = byV l ++ [.int .u8 x] := by simp [byV, ← h]
theorem new_one (w : World) (a : Value) (t : TypeId) : ∀ j u, [a][j]? = some u → (w.alloc (.cells #[a] t)).cell? ((⟨w.heap.size, 0, none⟩ : Addr).add j) = some u := by
  intro j u hj
  match j, hj with
  | 0, hj => simp at hj; subst hj; simp [Addr.add]
  | j + 1, hj => simp at hj
theorem u8_one (m : Int) : ∀ u ∈ [Value.int .u8 m], u.oneCell' = true := by
  intro x hx; simp at hx; subst hx; rfl
/-- what quoted hands back. -/
def QOf (e : Ending) : Option (List UInt8 × Nat) → Prop
  | none => e = .returned (.tuple #[.string ⟨#[]⟩, .int .i64 (-1)])
  | some x => e = .returned (.tuple #[.string ⟨x.1.toArray⟩, .int .i64 (x.2 : Int)])
theorem by_text {W : World} {base : Nat} {v : Value} {g : List UInt8} (h : W.ownsRow base 5 1 v g.length (byV g)) : (convert 62 9 v).run Tryd.prog W = .ok (.string ⟨g.toArray⟩) W := by
  rcases h.2 with ⟨e0, z⟩ | ⟨a, cap, cur, e0, _, _, h3, h4, _⟩
  · have hg : g = [] := List.length_eq_zero_iff.1 z
    subst e0; subst hg
    rw [run_convert_bytes_string (P := Tryd.prog) W 62 9 5 none 0 0 Tryd.underlying62 Tryd.underlying5 Tryd.underlying9]
    rfl
  · subst e0
    exact run_convert_bytes_back (P := Tryd.prog) W 62 9 5 ⟨a, 0, none⟩ cap g Tryd.underlying62 Tryd.underlying5 Tryd.underlying9 (fun j hj => h.cells rfl j _ (byV_get (List.getElem?_eq_getElem hj)))

set_option maxRecDepth 100000 in
set_option maxHeartbeats 4000000 in
theorem quoted_any (s : ByteArray) (a : Nat) (ha : a < s.size) (hs : s.size ≤ 2048) (w : World) :
    Calls Tryd.prog 33 #[.string s, .int .i64 (a : Int)] w fun e w' => Below w.heap.size w w' ∧ QOf e ((qdL (sb s (a + 1))).map (fun x => (x.1, a + 1 + x.2))) := by
  obtain ⟨i0, hi, hz0, hz1, hz2⟩ := info_parts infoByt
  obtain ⟨R, hR⟩ : ∃ R, R = (qdL (sb s (a + 1))).map (fun x => (x.1, a + 1 + x.2)) := ⟨_, rfl⟩
  rw [← hR]
  have hsI : (s.size : Int) ≤ 2048 := by omega
  have haw : IntKind.i64.wrap ((a : Int) + 1) = (a : Int) + 1 := by rw [IntKind.wrap_i64]; omega
  have HR : Hid (R = (qdL (sb s (a + 1))).map (fun x => (([] : List UInt8) ++ x.1, a + 1 + x.2))) := hR
  clear hR
  go_enter Tryd.func33, Tryd.ntmps33
  go_wp2_with fail
  go_loopw [6, 7] (fun v iv W => ∃ (i : Nat) (g : List UInt8) (sq : Option Addr) (sn sc : Nat), v = .slice sq sn sc ∧ iv = .int .i64 (i : Int) ∧ i ≤ s.size ∧ g.length ≤ i ∧ Hid (W.ownsRow w.heap.size 5 1 (.slice sq sn sc) g.length (byV g)) ∧ Hid (Below w.heap.size w W) ∧ Hid (R = (qdL (sb s i)).map (fun x => (g ++ x.1, i + x.2)))) (fun _ iv _ => s.size - (intOf iv).toNat)
  case atStart => exact ⟨a + 1, [], none, 0, 0, rfl, by go_num, by omega, by simp, World.ownsRow_nil _ _ _ _, Below.refl _ _, HR⟩
  case round =>
    obtain ⟨i, g, sq, sn, sc, rfl, rfl, his, hgi, HO, HB, HR2⟩ := hrel
    clear HR
    have hi0 : (0 : Int) ≤ (i : Int) := by omega
    have hiw : IntKind.i64.wrap ((i : Int) + 1) = (i : Int) + 1 := by rw [IntKind.wrap_i64]; omega
    by_cases hp : i < s.size
    · have hpI : (i : Int) < (s.size : Int) := by omega
      have e1 := sb_one s i hp
      obtain ⟨c, hc⟩ : ∃ c, s[i]'hp = c := ⟨_, rfl⟩
      obtain ⟨z, hz⟩ : ∃ z : Int, z = (c.toNat : Int) := ⟨_, rfl⟩
      have hb : ((s[i]'hp).toNat : Int) = z := by rw [hc, hz]
      rw [hc] at e1
      have HE1 : Hid (sb s i = c :: sb s (i + 1)) := e1
      have HZ : Hid ((c.toNat : Int) = z) := hz.symm
      clear e1
      by_cases h39 : c = 39
      · have hz39 : (z == 39) = true := by rw [hz, h39]; rfl
        by_cases h2 : i + 1 < s.size ∧ bt s (i + 1) = 39
        · obtain ⟨hp2, hb2⟩ := h2
          have hp2I : (i : Int) + 1 < (s.size : Int) := by omega
          have hb2' : ((s[i + 1]'hp2).toNat : Int) = 39 := by rw [bt_at s _ hp2] at hb2; omega
          have hcc : s[i + 1]'hp2 = 39 := UInt8.toNat_inj.1 (by rw [bt_at s _ hp2] at hb2; exact hb2)
          have HR3 : Hid (R = (qdL (sb s (i + 2))).map (fun x => ((g ++ [39]) ++ x.1, i + 2 + x.2))) := by
            show _ = _
            rw [HR2.out, HE1.out, h39, sb_one s (i + 1) hp2, hcc, qdL, if_pos rfl, if_pos rfl]
            cases qdL (sb s (i + 1 + 1)) with
            | none => rfl
            | some x => simp; omega
          have hi2w : IntKind.i64.wrap ((i : Int) + 1 + 1) = (i : Int) + 2 := by rw [IntKind.wrap_i64]; omega
          clear hc h39 hz HZ HE1 HR2 hb2 hcc
          go_wp2_with (first
            | (at_builtin; refine wpList_append_own _ rfl _ _ 62 rfl w.heap.size 5 i0 (.int .u8 0) 1 1 Tryd.underlying62 hi hz0 hz1 hz2 rfl (by decide) _ g.length (byV g) rfl (HO.out.alloc _) ⟨wr.heap.size, 0, none⟩ 1 1 [.int .u8 39] rfl rfl (new_one _ _ _) (u8_one _) (by unfold maxLen; omega) (by omega) (by have := HB.out.size; simp; omega) ?_; intro v' w3 hown' hgrow3 hnil3
               have HJ : Hid (w3.ownsRow w.heap.size 5 1 v' (g ++ [39]).length (byV (g ++ [39])) ∧ Below w.heap.size w w3) := ⟨by rw [byV_more g 39 39 rfl, List.length_append]; exact hown', Below.grown (HB.out.alloc HB.out.size _) hgrow3 (by have := HB.out.size; simp; omega) (fun k hk => by have := (HO.out.lt _ hk).1; omega)⟩
               obtain ⟨sq', sn', sc', hv'⟩ := own_form hown'
               subst hv'
               clear hown' hgrow3 hnil3))
          go_roundw
          case rel => exact ⟨i + 2, g ++ [39], sq', sn', sc', rfl, by go_num, by omega, by simp; omega, HJ.out.1, HJ.out.2, HR3⟩
          case measure => simp [intOf]; omega
        · have HR3 : Hid (R = some (g, i + 1)) := by
            show _ = _
            have : qdL (c :: sb s (i + 1)) = some ([], 1) := by
              rw [h39]
              by_cases hp2 : i + 1 < s.size
              · rw [sb_one s (i + 1) hp2, qdL, if_pos rfl, if_neg (fun q => h2 ⟨hp2, by rw [bt_at s _ hp2, q]; rfl⟩)]
              · have : sb s (i + 1) = [] := List.length_eq_zero_iff.1 (by rw [sb_length]; omega)
                rw [this]; rfl
            rw [HR2.out, HE1.out, this]; simp
          have hcb := by_text HO.out
          clear hc h39 hz HZ HE1 HR2
          by_cases hp2 : i + 1 < s.size
          · have hp2I : (i : Int) + 1 < (s.size : Int) := by omega
            obtain ⟨y, hy⟩ : ∃ y : Int, ((s[i + 1]'hp2).toNat : Int) = y := ⟨_, rfl⟩
            have hy39 : (y == 39) = false := by
              rw [beq_eq_false_iff_ne]; intro q
              exact h2 ⟨hp2, by rw [bt_at s _ hp2]; omega⟩
            clear h2
            go_wp2_with fail
            go_ret2
            exact ⟨HB.out, by rw [HR3.out]; rfl⟩
          · have hp2I : ¬ (i : Int) + 1 < (s.size : Int) := by omega
            clear h2
            go_wp2_with fail
            go_ret2
            exact ⟨HB.out, by rw [HR3.out]; rfl⟩
      · have hz39 : (z == 39) = false := by
          rw [beq_eq_false_iff_ne, hz]; intro q; exact h39 (UInt8.toNat_inj.1 (by show c.toNat = 39; omega))
        have HR3 : Hid (R = (qdL (sb s (i + 1))).map (fun x => ((g ++ [c]) ++ x.1, i + 1 + x.2))) := by
          show _ = _
          rw [HR2.out, HE1.out, qdL_cons h39]
          cases qdL (sb s (i + 1)) with
          | none => rfl
          | some x => simp; omega
        clear hc h39 hz HE1 HR2
        go_wp2_with (first
          | (at_builtin; refine wpList_append_own _ rfl _ _ 62 rfl w.heap.size 5 i0 (.int .u8 0) 1 1 Tryd.underlying62 hi hz0 hz1 hz2 rfl (by decide) _ g.length (byV g) rfl (HO.out.alloc _) ⟨wr.heap.size, 0, none⟩ 1 1 [.int .u8 z] rfl rfl (new_one _ _ _) (u8_one _) (by unfold maxLen; omega) (by omega) (by have := HB.out.size; simp; omega) ?_; intro v' w3 hown' hgrow3 hnil3
             have HJ : Hid (w3.ownsRow w.heap.size 5 1 v' (g ++ [c]).length (byV (g ++ [c])) ∧ Below w.heap.size w w3) := ⟨by rw [byV_more g c z HZ.out, List.length_append]; exact hown', Below.grown (HB.out.alloc HB.out.size _) hgrow3 (by have := HB.out.size; simp; omega) (fun k hk => by have := (HO.out.lt _ hk).1; omega)⟩
             obtain ⟨sq', sn', sc', hv'⟩ := own_form hown'
             subst hv'
             clear hown' hgrow3 hnil3))
        go_roundw
        case rel => exact ⟨i + 1, g ++ [c], sq', sn', sc', rfl, by go_num, by omega, by simp; omega, HJ.out.1, HJ.out.2, HR3⟩
        case measure => simp [intOf]; omega
    · have hpI : ¬ (i : Int) < (s.size : Int) := by omega
      have HR3 : Hid (R = none) := by
        show _ = _
        have : sb s i = [] := List.length_eq_zero_iff.1 (by rw [sb_length]; omega)
        rw [HR2.out, this]; rfl
      clear HR2
      go_wp2_with fail
      go_ret2
      exact ⟨HB.out, by rw [HR3.out]; rfl⟩

end Go.Proofs.YtaoocecipacnhaaDoor
