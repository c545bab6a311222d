import Derived.Laws.IdiomStrings
import Derived.Test.YtaoocecipacnhaaDoorX10
import Derived.Deep.RegionHeld3
open Go.Value renaming int → vi, string → vS, slice → vL
open Go.IntKind renaming i64 → ki
open List renaming setIfInBounds_toArray → zb, set_cons_zero → zc, set_cons_succ → zd, length_cons → zl
open Go.Act renaming put → za
open Go.Ending renaming returned → zr
set_option maxRecDepth 100000
set_option maxHeartbeats 16000000
set_option linter.all false
namespace Go.Proofs.YtaoocecipacnhaaDoor
open Go.RowKit
def aftT (L : List Tk) (i : Nat) (a : Int) : Bool := match L[i]? with | some q => decide (q.2.2 = a) | none => false
theorem after_any (b cap : Nat) (L : List Tk) (i : Nat) (hi : i ≤ 5000) (a : Int) (w : World) (h : PV b 0 cap L w) :
  Calls Tryd.prog 55 #[vL (some ⟨b, 0, none⟩) L.length cap, vi ki (i : Int), vi ki a] w fun e w' => e = zr (.bool (aftT L i a)) ∧ w' = w := by
 have hb := h.1
 have hl := h.2.1
 have hlc := h.2.2.1
 have hc := h.2.2.2.1
 by_cases hlt : i < L.length
 ·obtain ⟨q, hq⟩ : ∃ q, L[i]? = some q := ⟨L[i]'hlt, List.getElem?_eq_getElem hlt⟩
  obtain ⟨⟨-, -, c2⟩, -⟩ := h.2.2.2.2 i q hq
  rw [Nat.zero_add] at c2
  have e : aftT L i a = decide (q.2.2 = a) := by unfold aftT; rw [hq]
  rw [e]
  have hI : (i : Int) < (L.length : Int) := by omega
  have h0 : (0 : Int) ≤ (i : Int) := by omega
  have hw' : IntKind.i64.wrap (i : Int) = (i : Int) := by rw [IntKind.wrap_i64]; omega
  clear h e
  go_enter Tryd.func55, Tryd.ntmps55
  by_cases he : q.2.2 = a
  ·have g : (q.2.2 == a) = true := by simpa using he
   rw [decide_eq_true he]
   go_wp2_with fail
   go_ret
   exact ⟨rfl, rfl⟩
  ·have g : (q.2.2 == a) = false := by simpa using he
   rw [decide_eq_false he]
   go_wp2_with fail
   go_ret
   exact ⟨rfl, rfl⟩
 ·have e : aftT L i a = false := by unfold aftT; rw [List.getElem?_eq_none (by omega)]
  rw [e]
  have hI : ¬ (i : Int) < (L.length : Int) := by omega
  clear h e
  go_enter Tryd.func55, Tryd.ntmps55
  go_wp2_with fail
  go_ret
  exact ⟨rfl, rfl⟩
theorem rpair_any (t : ByteArray) (w : World) :
  Calls Tryd.prog 56 #[vS t] w fun e w' => e = zr (.bool (isPr t)) ∧ w' = w := by
 have e1 := lit_eq t [60, 61]
 have e2 := lit_eq t [62, 61]
 have e3 := lit_eq t [60, 62]
 have e4 := lit_eq t [58, 58]
 obtain ⟨B, hB⟩ : ∃ B, isPr t = B := ⟨_, rfl⟩
 rw [hB]
 unfold isPr at hB
 change (decide (t = ⟨[60, 61].toArray⟩) || decide (t = ⟨[62, 61].toArray⟩) || decide (t = ⟨[60, 62].toArray⟩) || decide (t = ⟨[58, 58].toArray⟩)) = B at hB
 rw [← e1, ← e2, ← e3, ← e4] at hB
 clear e1 e2 e3 e4
 have HB : Hid _ := hB
 clear hB
 go_enter Tryd.func56, Tryd.ntmps56
 cases h1 : (t.toList == [60, 61]) with
 | true =>
  have HV : Hid (B = true) := by show _ = _; rw [← HB.out, h1]; rfl
  go_wp2_with fail
  go_ret
  exact ⟨(by rw [HV.out]; rfl), rfl⟩
 | false =>
  cases h2 : (t.toList == [62, 61]) with
  | true =>
   have HV : Hid (B = true) := by show _ = _; rw [← HB.out, h1, h2]; rfl
   go_wp2_with fail
   go_ret
   exact ⟨(by rw [HV.out]; rfl), rfl⟩
  | false =>
   cases h3 : (t.toList == [60, 62]) with
   | true =>
    have HV : Hid (B = true) := by show _ = _; rw [← HB.out, h1, h2, h3]; rfl
    go_wp2_with fail
    go_ret
    exact ⟨(by rw [HV.out]; rfl), rfl⟩
   | false =>
    cases h4 : (t.toList == [58, 58]) with
    | true =>
     have HV : Hid (B = true) := by show _ = _; rw [← HB.out, h1, h2, h3, h4]; rfl
     go_wp2_with fail
     go_ret
     exact ⟨(by rw [HV.out]; rfl), rfl⟩
    | false =>
     have HV : Hid (B = false) := by show _ = _; rw [← HB.out, h1, h2, h3, h4]; rfl
     go_wp2_with fail
     go_ret
     exact ⟨(by rw [HV.out]; rfl), rfl⟩
def byV (l : List UInt8) : List Value := l.map fun b => .int .u8 (b.toNat : Int)
theorem infoByt : (Tryd.prog.info? 5).map (fun i => (i.zero, i.size, i.bytes)) = some (some (.int .u8 0), 1, 1) := by kernel_rfl
theorem byV_get {l : List UInt8} {j : Nat} {c : UInt8} (h : l[j]? = some c) : (byV l)[j]? = some (.int .u8 (c.toNat : Int)) := by simp [byV, h]
theorem byV_more (l : List UInt8) (c : UInt8) (x : Int) (h : (c.toNat : Int) = x) : byV (l ++ [c]) = byV l ++ [.int .u8 x] := by simp [byV, ← h]
theorem new_one (w : World) (a : Value) (t : TypeId) : ∀ j u, [a][j]? = some u → (w.alloc (.cells #[a] t)).cell? ((⟨w.heap.size, 0, none⟩ : Addr).add j) = some u := by
 intro j u hj
 match j, hj with
 | 0, hj => simp at hj; subst hj; simp [Addr.add]
 | j + 1, hj => simp at hj
theorem u8_one (m : Int) : ∀ u ∈ [Value.int .u8 m], u.oneCell' = true := by
 intro x hx; simp at hx; subst hx; rfl
def QOf (e : Ending) : Option (List UInt8 × Nat) → Prop
 | none => e = zr (.tuple #[vS ⟨#[]⟩, vi ki (-1)])
 | some x => e = zr (.tuple #[vS ⟨x.1.toArray⟩, vi ki (x.2 : Int)])
theorem by_text {W : World} {base : Nat} {v : Value} {g : List UInt8} (h : W.ownsRow base 5 1 v g.length (byV g)) : (convert 62 9 v).run Tryd.prog W = .ok (vS ⟨g.toArray⟩) W := by
 rcases h.2 with ⟨e0, z⟩ | ⟨a, cap, cur, e0, _, _, h3, h4, _⟩
 ·have hg : g = [] := List.length_eq_zero_iff.1 z
  subst e0; subst hg
  rw [run_convert_bytes_string (P := Tryd.prog) W 62 9 5 none 0 0 Tryd.underlying62 Tryd.underlying5 Tryd.underlying9]
  rfl
 ·subst e0
  exact run_convert_bytes_back (P := Tryd.prog) W 62 9 5 ⟨a, 0, none⟩ cap g Tryd.underlying62 Tryd.underlying5 Tryd.underlying9 (fun j hj => h.cells rfl j _ (byV_get (List.getElem?_eq_getElem hj)))
theorem quoted_any (s : ByteArray) (a : Nat) (ha : a < s.size) (hs : s.size ≤ 2048) (w : World) :
    Calls Tryd.prog 33 #[vS s, vi ki (a : Int)] w fun e w' => Below w.heap.size w w' ∧ QOf e ((qdL (sb s (a + 1))).map (fun x => (x.1, a + 1 + x.2))) := by
  obtain ⟨i0, hi, hz0, hz1, hz2⟩ := info_parts infoByt
  obtain ⟨R, hR⟩ : ∃ R, R = (qdL (sb s (a + 1))).map (fun x => (x.1, a + 1 + x.2)) := ⟨_, rfl⟩
  rw [← hR]
  have hsI : (s.size : Int) ≤ 2048 := by omega
  have haw : IntKind.i64.wrap ((a : Int) + 1) = (a : Int) + 1 := by rw [IntKind.wrap_i64]; omega
  have HR := hZz hR
  clear hR
  go_enter Tryd.func33, Tryd.ntmps33
  go_wp2_with fail
  go_loopw [6, 7] (fun v iv W => ∃ (i : Nat) (g : List UInt8) (sq : Option Addr) (sn sc : Nat), v = vL sq sn sc ∧ iv = vi ki (i : Int) ∧ i ≤ s.size ∧ g.length ≤ i ∧ Hid (W.ownsRow w.heap.size 5 1 (vL sq sn sc) g.length (byV g)) ∧ Hid (Below w.heap.size w W) ∧ Hid (R = (qdL (sb s i)).map (fun x => (g ++ x.1, i + x.2)))) (fun _ iv _ => s.size - (intOf iv).toNat)
  case atStart => exact ⟨a + 1, [], none, 0, 0, rfl, by go_num, by omega, by simp, World.ownsRow_nil _ _ _ _, Below.refl _ _, HR⟩
  case round =>
    obtain ⟨i, g, sq, sn, sc, rfl, rfl, his, hgi, HO, HB, HR2⟩ := hrel
    clear HR
    have hi0 : (0 : Int) ≤ (i : Int) := by omega
    have hiw : IntKind.i64.wrap ((i : Int) + 1) = (i : Int) + 1 := by rw [IntKind.wrap_i64]; omega
    by_cases hp : i < s.size
    · have hpI : (i : Int) < (s.size : Int) := by omega
      have e1 := sb_one s i hp
      obtain ⟨c, hc⟩ : ∃ c, s[i]'hp = c := ⟨_, rfl⟩
      obtain ⟨z, hz⟩ : ∃ z : Int, z = (c.toNat : Int) := ⟨_, rfl⟩
      have hb : ((s[i]'hp).toNat : Int) = z := by rw [hc, hz]
      rw [hc] at e1
      have HE1 := hZz e1
      have HZ := hZz hz.symm
      clear e1
      by_cases h39 : c = 39
      · have hz39 : (z == 39) = true := by rw [hz, h39]; rfl
        by_cases h2 : i + 1 < s.size ∧ bt s (i + 1) = 39
        · obtain ⟨hp2, hb2⟩ := h2
          have hp2I : (i : Int) + 1 < (s.size : Int) := by omega
          have hb2' : ((s[i + 1]'hp2).toNat : Int) = 39 := by rw [bt_at s _ hp2] at hb2; omega
          have hcc : s[i + 1]'hp2 = 39 := UInt8.toNat_inj.1 (by rw [bt_at s _ hp2] at hb2; exact hb2)
          have HR3 : Hid (R = (qdL (sb s (i + 2))).map (fun x => ((g ++ [39]) ++ x.1, i + 2 + x.2))) := by
            show _ = _
            rw [HR2.out, HE1.out, h39, sb_one s (i + 1) hp2, hcc, qdL, if_pos rfl, if_pos rfl]
            cases qdL (sb s (i + 1 + 1)) with
            | none => rfl
            | some x => simp; omega
          have hi2w : IntKind.i64.wrap ((i : Int) + 1 + 1) = (i : Int) + 2 := by rw [IntKind.wrap_i64]; omega
          clear hc h39 hz HZ HE1 HR2 hb2 hcc
          go_wp2_with (first
            | (at_builtin; refine wpList_append_own _ rfl _ _ 62 rfl w.heap.size 5 i0 (.int .u8 0) 1 1 Tryd.underlying62 hi hz0 hz1 hz2 rfl (by decide) _ g.length (byV g) rfl (HO.out.alloc _) ⟨wr.heap.size, 0, none⟩ 1 1 [.int .u8 39] rfl rfl (new_one _ _ _) (u8_one _) (by unfold maxLen; omega) (by omega) (by have := HB.out.size; simp; omega) ?_; intro v' w3 hown' hgrow3 hnil3
               have HJ : Hid (w3.ownsRow w.heap.size 5 1 v' (g ++ [39]).length (byV (g ++ [39])) ∧ Below w.heap.size w w3) := ⟨by rw [byV_more g 39 39 rfl, List.length_append]; exact hown', Below.grown (HB.out.alloc HB.out.size _) hgrow3 (by have := HB.out.size; simp; omega) (fun k hk => by have := (HO.out.lt _ hk).1; omega)⟩
               obtain ⟨sq', sn', sc', hv'⟩ := own_form hown'
               subst hv'
               clear hown' hgrow3 hnil3))
          go_roundw
          case rel => exact ⟨i + 2, g ++ [39], sq', sn', sc', rfl, by go_num, by omega, by simp; omega, HJ.out.1, HJ.out.2, HR3⟩
          case measure => simp [intOf]; omega
        · have HR3 : Hid (R = some (g, i + 1)) := by
            show _ = _
            have : qdL (c :: sb s (i + 1)) = some ([], 1) := by
              rw [h39]
              by_cases hp2 : i + 1 < s.size
              · rw [sb_one s (i + 1) hp2, qdL, if_pos rfl, if_neg (fun q => h2 ⟨hp2, by rw [bt_at s _ hp2, q]; rfl⟩)]
              · have : sb s (i + 1) = [] := List.length_eq_zero_iff.1 (by rw [sb_length]; omega)
                rw [this]; rfl
            rw [HR2.out, HE1.out, this]; simp
          have hcb := by_text HO.out
          clear hc h39 hz HZ HE1 HR2
          by_cases hp2 : i + 1 < s.size
          · have hp2I : (i : Int) + 1 < (s.size : Int) := by omega
            obtain ⟨y, hy⟩ : ∃ y : Int, ((s[i + 1]'hp2).toNat : Int) = y := ⟨_, rfl⟩
            have hy39 : (y == 39) = false := by
              rw [beq_eq_false_iff_ne]; intro q
              exact h2 ⟨hp2, by rw [bt_at s _ hp2]; omega⟩
            clear h2
            go_wp2_with fail
            go_ret2
            exact ⟨HB.out, by rw [HR3.out]; rfl⟩
          · have hp2I : ¬ (i : Int) + 1 < (s.size : Int) := by omega
            clear h2
            go_wp2_with fail
            go_ret2
            exact ⟨HB.out, by rw [HR3.out]; rfl⟩
      · have hz39 : (z == 39) = false := by
          rw [beq_eq_false_iff_ne, hz]; intro q; exact h39 (UInt8.toNat_inj.1 (by show c.toNat = 39; omega))
        have HR3 : Hid (R = (qdL (sb s (i + 1))).map (fun x => ((g ++ [c]) ++ x.1, i + 1 + x.2))) := by
          show _ = _
          rw [HR2.out, HE1.out, qdL_cons h39]
          cases qdL (sb s (i + 1)) with
          | none => rfl
          | some x => simp; omega
        clear hc h39 hz HE1 HR2
        go_wp2_with (first
          | (at_builtin; refine wpList_append_own _ rfl _ _ 62 rfl w.heap.size 5 i0 (.int .u8 0) 1 1 Tryd.underlying62 hi hz0 hz1 hz2 rfl (by decide) _ g.length (byV g) rfl (HO.out.alloc _) ⟨wr.heap.size, 0, none⟩ 1 1 [.int .u8 z] rfl rfl (new_one _ _ _) (u8_one _) (by unfold maxLen; omega) (by omega) (by have := HB.out.size; simp; omega) ?_; intro v' w3 hown' hgrow3 hnil3
             have HJ : Hid (w3.ownsRow w.heap.size 5 1 v' (g ++ [c]).length (byV (g ++ [c])) ∧ Below w.heap.size w w3) := ⟨by rw [byV_more g c z HZ.out, List.length_append]; exact hown', Below.grown (HB.out.alloc HB.out.size _) hgrow3 (by have := HB.out.size; simp; omega) (fun k hk => by have := (HO.out.lt _ hk).1; omega)⟩
             obtain ⟨sq', sn', sc', hv'⟩ := own_form hown'
             subst hv'
             clear hown' hgrow3 hnil3))
        go_roundw
        case rel => exact ⟨i + 1, g ++ [c], sq', sn', sc', rfl, by go_num, by omega, by simp; omega, HJ.out.1, HJ.out.2, HR3⟩
        case measure => simp [intOf]; omega
    · have hpI : ¬ (i : Int) < (s.size : Int) := by omega
      have HR3 : Hid (R = none) := by
        show _ = _
        have : sb s i = [] := List.length_eq_zero_iff.1 (by rw [sb_length]; omega)
        rw [HR2.out, this]; rfl
      clear HR2
      go_wp2_with fail
      go_ret2
      exact ⟨HB.out, by rw [HR3.out]; rfl⟩
def TxtA (w : World) (a : Addr) (L : List ByteArray) : Prop := True ∧ ∀ j t, L[j]? = some t → w.cell? (a.add j) = some (vS t)
theorem TxtA.below {w w1 : World} {a : Addr} {L : List ByteArray} (h : TxtA w a L) (hb : Below w.heap.size w w1) : TxtA w1 a L :=
 ⟨trivial, fun j t hj => (hb.cell (World.block_lt_of_cell? w _ (h.2 j t hj))).trans (h.2 j t hj)⟩
theorem rknownA_any (s : ByteArray) (L : List ByteArray) (a : Addr) (cap : Nat) (w : World) (hs : s.size ≤ 140737488351232) (hL : ∀ (j : Nat) (t : ByteArray), L[j]? = some t → t.size ≤ 140737488351232) (hcap : L.length ≤ cap) (hcap2 : cap ≤ maxLen) (hT : TxtA w a L) :
  Calls Tryd.prog 68 #[vS s, vL (some a) L.length cap] w fun e w' => e = zr (vi ki (knownB s L)) ∧ Below w.heap.size w w' := by
 unfold maxLen at hcap2
 obtain ⟨G, hG⟩ : ∃ G, knownB s L = G := ⟨_, rfl⟩
 have HG : Hid (findF (fun t => sameB s t) 0 (L.drop 0) = G) := by show _ = _; rw [List.drop_zero, ← hG]; rfl
 rw [hG]
 clear hG
 go_enter Tryd.func68, Tryd.ntmps68
 go_wp2_with fail
 go_loopw [5] (fun k wr => ∃ i : Nat, i ≤ L.length ∧ k = vi ki (i : Int) ∧ Below w.heap.size w wr ∧ TxtA wr a L ∧ Hid (findF (fun t => sameB s t) i (L.drop i) = G)) (fun k _ => L.length - (intOf k).toNat)
 case atStart => exact ⟨0, Nat.zero_le _, rfl, Below.refl _ _, hT, HG⟩
 case round =>
  obtain ⟨i, hi, rfl, B, T, HS⟩ := hrel
  have HB := hZz B
  have HT := hZz T
  by_cases hlt : i < L.length
  ·have hlt' : (i : Int) < (L.length : Int) := by omega
   obtain ⟨t, ht⟩ : ∃ t, L[i]? = some t := ⟨L[i]'hlt, List.getElem?_eq_getElem hlt⟩
   have hc : wr.cell? (a.add i) = some (vS t) := T.2 i t ht
   have hts := hL i t ht
   have HE : Hid ((if sameB s t = true then (i : Int) else findF (fun t => sameB s t) (i + 1) (L.drop (i + 1))) = G) := by show _ = _; rw [← HS.out, findF_step ht]
   have i0 : (0 : Int) ≤ (i : Int) := by omega
   have i1 : (i : Int) < 9223372036854775807 := by omega
   have HSM : Hid (∀ w : World, Calls Tryd.prog 77 #[vS s, vS t] w fun e w' => e = zr (.bool (sameB s t)) ∧ Below w.heap.size w w') := rsame_any s t hs hts
   clear HS B T ht hT HG
   cases hq : sameB s t with
   | true =>
    have e1 : G = (i : Int) := by rw [← HE.out, if_pos hq]
    rw [hq] at HSM
    subst e1
    clear hq
    go_wp2_with fail
    refine (HSM.out _).mono ?_
    rintro e w2 ⟨rfl, b2⟩
    have HB2 : Hid (Below w.heap.size w w2) := HB.out.trans (b2.mono HB.out.size)
    clear b2
    go_wp2_with fail
    go_ret
    exact ⟨rfl, HB2.out⟩
   | false =>
    have HF : Hid (findF (fun t => sameB s t) (i + 1) (L.drop (i + 1)) = G) := by show _ = _; rw [← HE.out, if_neg (by rw [hq]; decide)]
    rw [hq] at HSM
    clear hq
    go_wp2_with fail
    refine (HSM.out _).mono ?_
    rintro e w2 ⟨rfl, b2⟩
    have HB2 : Hid (Below w.heap.size w w2) := HB.out.trans (b2.mono HB.out.size)
    have HT2 : Hid (TxtA w2 a L) := HT.out.below b2
    clear b2
    go_wp2_with fail
    go_roundw
    case rel => exact ⟨i + 1, by omega, by go_num, HB2.out, HT2.out, HF⟩
    case measure => simp [intOf]; omega
  ·have hlt' : ¬ (i : Int) < (L.length : Int) := by omega
   have e1 : G = -1 := by rw [← HS.out, findF_end hlt]
   subst e1
   clear B T
   go_wp2_with fail
   go_ret
   exact ⟨rfl, HB.out⟩
theorem rwant_yes (g b cap : Nat) (T L : List Tk) (r : Tk) (hz : GoodT r) (s : ByteArray) (hs : sgB r s = true) (hL : L ≠ []) (d : Nat) (w : World) (h : RS g b cap T w (r :: L) d) :
  Calls Tryd.prog 39 #[.pointer (some ⟨g, 0, none⟩), vS s] w fun e w' => e = zr (.tuple #[]) ∧ Kp g w w' ∧ RS g b cap T w' L d := by
 obtain ⟨⟨pre, a0, e, hb⟩, htr, hne, hle, hmost⟩ := id h
 have c0 := hb.c 0 rfl
 have hg := hb.1
 have hbl := htr.1
 obtain ⟨t0, t1, t2⟩ := htr.at e
 unfold maxLen at hmost
 have hlen : T.length = pre.length + L.length + 1 := by rw [e]; simp <;> omega
 have HH := hZz h
 clear hb htr e h
 have HSg := rsign_any g b cap T L r hz s (fun _ => hL) d w HH.out
 rw [hs, if_pos rfl] at HSg
 have HSi : Hid _ := HSg
 clear HSg
 go_enter Tryd.func39, Tryd.ntmps39
 go_wp2_with fail
 refine Calls.mono HSi.out ?_
 rintro e W ⟨rfl, hk, hr⟩
 have HK := hZz hk
 have HR := hZz hr
 clear hk hr
 go_wp2
 refine bodyPost_end (v := .tuple #[]) (by simp [results, Tryd.results39, go_sem]) rfl ⟨rfl, HK.out, HR.out⟩
theorem rwant_no (g b lo cap : Nat) (T L : List Tk) (r : Tk) (hz : GoodT r) (s : ByteArray) (hs : sgB r s = false) (d : Nat) (hd : d ≤ 100) (w : World) (h : RS g b cap T w (r :: L) d) :
  Calls Tryd.prog 39 #[.pointer (some ⟨g, 0, none⟩), vS s] w fun e w' => e = zr (.tuple #[]) ∧ Kp g w w' ∧ RF g b lo w' r.2.2 30 := by
 obtain ⟨⟨pre, a0, e, hb⟩, htr, hne, hle, hmost⟩ := id h
 have c0 := hb.c 0 rfl
 have hg := hb.1
 have hbl := htr.1
 obtain ⟨t0, t1, t2⟩ := htr.at e
 unfold maxLen at hmost
 have hlen : T.length = pre.length + L.length + 1 := by rw [e]; simp <;> omega
 have HH := hZz h
 clear hb htr e h
 have HSg := rsign_any g b cap T L r hz s (fun q => by rw [hs] at q; cases q) d w HH.out
 rw [hs, if_neg (by simp)] at HSg
 have HSi : Hid _ := HSg
 clear HSg
 go_enter Tryd.func39, Tryd.ntmps39
 go_wp2_with fail
 refine Calls.mono HSi.out ?_
 rintro e W ⟨rfl, hk, hr⟩
 have HK := hZz hk
 have HF : Hid _ := rfail_ok g b lo cap T L r hz.size d hd 30 r.2.2 W hr
 clear hk hr
 go_wp2_with fail
 refine Calls.mono HF.out ?_
 rintro e W2 ⟨rfl, hk, hr⟩
 have HK2 := kph HK hk
 have HR := hZz hr
 clear hk hr
 go_wp2
 refine bodyPost_end (v := .tuple #[]) (by simp [results, Tryd.results39, go_sem]) rfl ⟨rfl, HK2.out, HR.out⟩
theorem rwant_bad (g b lo : Nat) (s : ByteArray) (a e : Int) (he : e ≠ 0) (w : World) (h : RF g b lo w a e) :
  Calls Tryd.prog 39 #[.pointer (some ⟨g, 0, none⟩), vS s] w fun e' w' => e' = zr (.tuple #[]) ∧ Kp g w w' ∧ RF g b lo w' a e := by
 obtain ⟨c, o, n, m, D, k, z, t, -, hb, h2, h3, h4, h5, h6, h7, hD, t0, t1, t2⟩ := id h
 have c0 := hb.c 0 rfl
 have hg := hb.1
 have hnI : (1 : Int) ≤ (n : Int) := by omega
 have hnmI : (n : Int) ≤ (m : Int) := by omega
 unfold maxLen at h4
 have hmI : (m : Int) ≤ 9223372036854775807 := by omega
 have HSi : Hid _ := rsign_bad g b lo s a e he w h
 have HE := hZz he
 clear hb h he
 go_enter Tryd.func39, Tryd.ntmps39
 go_wp2_with fail
 refine Calls.mono HSi.out ?_
 rintro e' W ⟨rfl, hk, hr⟩
 have HK := hZz hk
 have HF : Hid _ := rfail_no g b lo 30 z a e HE.out W hr
 clear hk hr
 go_wp2_with fail
 refine Calls.mono HF.out ?_
 rintro e' W2 ⟨rfl, hk, hr⟩
 have HK2 := kph HK hk
 have HR := hZz hr
 clear hk hr
 go_wp2
 refine bodyPost_end (v := .tuple #[]) (by simp [results, Tryd.results39, go_sem]) rfl ⟨rfl, HK2.out, HR.out⟩
def sgW : Nat → List ByteArray
 | 0 => [orB]
 | 1 => [andB]
 | 3 => [b1 61, b2 60 62, b1 60, b2 60 61, b1 62, b2 62 61]
 | 4 => [b1 43, b1 45]
 | 5 => [b1 42, b1 47, b1 37]
 | _ => [atB]
def sTx (L : List ByteArray) : List Value := L.map Value.string
theorem rsigns_any (lev : Nat) (hl : lev = 0 ∨ lev = 1 ∨ lev = 3 ∨ lev = 4 ∨ lev = 5 ∨ lev = 7) (w : World) :
    Calls Tryd.prog 38 #[vi ki (lev : Int)] w fun e w' => e = zr (vL (some ⟨w.heap.size, 0, none⟩) (sgW lev).length (sgW lev).length) ∧ w' = w.alloc (.cells (sTx (sgW lev)).toArray 9) := by
  rcases hl with rfl | rfl | rfl | rfl | rfl | rfl <;>
    (go_enter Tryd.func38, Tryd.ntmps38
     go_wp2
     go_ret
     exact ⟨rfl, rfl⟩)
def rsW : List ByteArray := [trueB, falseB, notB, andB, orB, atB, timeB, zoneB]
def tyW : List ByteArray := [dateB, stampB, tzB, ivB]
theorem known_any {s : ByteArray} : ∀ (l : List ByteArray) (i : Nat), (∀ t ∈ l, lowB t = t) → (decide (0 ≤ findF (fun t => sameB s t) i l) = l.any (fun t => decide (lowB s = t)))
 | [], i, h => rfl
 | t :: l, i, h => by
  rw [findF]
  have ht := h t List.mem_cons_self
  by_cases e : lowB s = t
  ·rw [if_pos (by unfold sameB; simp [ht, e])]
   simp [e]
  ·rw [if_neg (by unfold sameB; simp [ht, e]), known_any l (i + 1) (fun t ht => h t (List.mem_cons_of_mem _ ht))]
   simp [e]
theorem rsv_known (s : ByteArray) : decide (0 ≤ knownB s rsW) = rsvd (lowB s) := by
 unfold knownB
 rw [known_any rsW 0 (by intro t ht; unfold rsW at ht; simp only [List.mem_cons, List.not_mem_nil, or_false] at ht; rcases ht with rfl | rfl | rfl | rfl | rfl | rfl | rfl | rfl <;> decide +kernel)]
 simp [rsW, rsvd, Bool.or_assoc]
theorem typ_known (s : ByteArray) : decide (0 ≤ knownB s tyW) = typB (lowB s) := by
 unfold knownB
 rw [known_any tyW 0 (by intro t ht; unfold tyW at ht; simp only [List.mem_cons, List.not_mem_nil, or_false] at ht; rcases ht with rfl | rfl | rfl | rfl <;> decide +kernel)]
 simp [tyW, typB, Bool.or_assoc]
theorem txt_new (w : World) (L : List ByteArray) : TxtA (w.alloc (.cells (sTx L).toArray 9)) ⟨w.heap.size, 0, none⟩ L := ⟨trivial, fun j t ht => by
 rw [show (⟨w.heap.size, 0, none⟩ : Addr).add j = ⟨w.heap.size, j, none⟩ from by rw [Addr.add_lit]; simp]
 exact (Bx.new w (sTx L) 9).c j (by unfold sTx; simp [ht])⟩
theorem rreserved_any (s : ByteArray) (hs : s.size ≤ 140737488351232) (w : World) :
  Calls Tryd.prog 59 #[vS s] w fun e w' => e = zr (.bool (rsvd (lowB s))) ∧ Below w.heap.size w w' := by
 have HK := rknownA_any s rsW ⟨w.heap.size, 0, none⟩ 8 (w.alloc (.cells (sTx rsW).toArray 9)) hs (by intro j t ht; have := List.mem_of_getElem? ht; unfold rsW at this; simp only [List.mem_cons, List.not_mem_nil, or_false] at this; rcases this with rfl | rfl | rfl | rfl | rfl | rfl | rfl | rfl <;> decide) (by decide) (by decide) (txt_new w rsW)
 rw [← rsv_known]
 obtain ⟨G, hG⟩ : ∃ G, knownB s rsW = G := ⟨_, rfl⟩
 rw [hG] at HK ⊢
 have HKK : Hid _ := HK
 clear HK hG
 go_enter Tryd.func59, Tryd.ntmps59
 go_wp2_with fail
 refine Calls.mono HKK.out ?_
 rintro e W ⟨rfl, hk⟩
 have HB : Hid (Below w.heap.size w W) := ((Below.refl _ w).alloc (Nat.le_refl _) _).trans (hk.mono (by simp))
 clear hk HKK
 go_wp2
 go_ret
 exact ⟨rfl, HB.out⟩
theorem gen_anyR {P : Program} {md : Region.Mode} {ops : Array Oper} {Q : Exit → Act → World → Prop} {S : World → Prop} {fuel : Nat} {listed : Array Bool} {a : Act} {w1 : World} (T : World → Prop) (h : T w1)
  (k : ∀ w2, T w2 → wpAnyH P md ops Q S fuel listed a w2) : wpAnyH P md ops Q S fuel listed a w1 := k _ h
def Z4 : List Value := [vi ki 0, vS ⟨#[]⟩, vL none 0 0, vi ki 0]
def ROut (g b lo cap : Nat) (T : List Tk) (X : Nat → Prop) (w' : World) (d : Nat) (e : Ending) : PR → Prop
 | .ok n l1 => ∃ L1, l1 = mL L1 ∧ RS g b cap T w' L1 d ∧ EndL (mL L1) ∧ ∃ k t sq sn sc a, e = zr (.agg #[vi ki k, vS t, vL sq sn sc, vi ki a]) ∧ NdAt X w' n [vi ki k, vS t, vL sq sn sc, vi ki a]
 | .no a er => er ≠ 0 ∧ RF g b lo w' a er ∧ ∃ k t sq sn sc z, e = zr (.agg #[vi ki k, vS t, vL sq sn sc, vi ki z])
def RLv (g b cap : Nat) (T : List Tk) (lev N : Nat) : Prop :=
 ∀ (w : World) (L : List Tk) (d f : Nat), RS g b cap T w L d → EndL (mL L) → d ≤ 20 → L.length ≤ N → need (.lv lev) (mL L) ≤ f →
  Calls Tryd.prog 18 #[.pointer (some ⟨g, 0, none⟩), vi ki (lev : Int)] w fun e w' => Kp g w w' ∧ ROut g b w.heap.size cap T (fun c => w.heap.size ≤ c) w' d e (par f (.lv lev) d (mL L))
theorem mL_len (L : List Tk) : (mL L).length = L.length := by unfold mL; simp
theorem mL_none {L : List Tk} (h : EndL (mL L)) : ∃ r L', L = r :: L' := by
 cases L with
 | nil => exact h.elim
 | cons r L => exact ⟨r, L, rfl⟩
theorem RS.good {g b cap : Nat} {T : List Tk} {w : World} {r : Tk} {L : List Tk} {d : Nat} (h : RS g b cap T w (r :: L) d) (hG : ∀ x ∈ T, GoodT x) : GoodT r := by
 obtain ⟨pre, _, e, _⟩ := h.bx
 exact hG r (by rw [e]; simp)
theorem RS.drew {g b cap : Nat} {T : List Tk} {w : World} {L : List Tk} {d : Nat} (h : RS g b cap T w L d) : RS g b cap T w.drew L d := h.keep (Nat.le_refl _) (fun _ _ => rfl)
theorem NdAt.drewR {X : Nat → Prop} {w : World} {n : Nd} {cs : List Value} (h : NdAt X w n cs) : NdAt X w.drew n cs := NdAt.keep (w := w) (W := w.drew) (Nat.le_refl _) (fun b hb _ => ⟨hb, rfl⟩) _ _ h
theorem RF.off {g b lo : Nat} {w W : World} {a e : Int} (h : RF g b lo w a e) {r : Nat} (k : ∀ c, c < w.heap.size → c ≠ r → W.heap[c]? = w.heap[c]?) (hz : w.heap.size ≤ W.heap.size) (h1 : g ≠ r) (h2 : b ≠ r) (h3 : r < lo) : RF g b lo W a e := by
 obtain ⟨c, o, n, m, D, kk, z, t, h0, hb, i2, i3, i4, i5, i6, i7, hD, i8, i9, i10⟩ := h
 have q := k c i6 (by omega)
 have qg := k g hb.1 h1
 exact ⟨c, o, n, m, D, kk, z, t, h0, ⟨Nat.lt_of_lt_of_le hb.1 hz, fun i v hv => ⟨(World.cell?_of_block (w := w) (a := ⟨g, i, none⟩) qg).trans (hb.2 i v hv).1, (World.frozen?_of_block (w := w) (a := ⟨g, i, none⟩) qg).trans (hb.2 i v hv).2⟩⟩, i2, i3, i4, i5, Nat.lt_of_lt_of_le i6 hz, i7, hD,
  (World.cell?_of_block (w := w) (a := ⟨c, o, none⟩) q).trans i8, (World.cell?_of_block (w := w) (a := ⟨c, o + 1, none⟩) q).trans i9, (World.cell?_of_block (w := w) (a := ⟨c, o + 2, none⟩) q).trans i10⟩
def CR (g b cap : Nat) (T : List Tk) (w : World) (B d : Nat) (L : List Tk) (n : Nd) (c0 c1 c2 c3 : Value) (V : World) : Prop :=
 Kp g w V ∧ Bx V w.heap.size [vi ki 0, vS ⟨#[]⟩, vL none 0 0, vi ki 0] ∧ Bx V B [c0, c1, c2, c3] ∧ RS g b cap T V L d ∧ NdAt (fun c => w.heap.size + 1 ≤ c ∧ c ≠ B) V n [c0, c1, c2, c3] ∧ w.heap.size + 1 ≤ B ∧ EndL (mL L)
theorem CR.drew {g b cap : Nat} {T : List Tk} {w : World} {B d : Nat} {L : List Tk} {n : Nd} {c0 c1 c2 c3 : Value} {V : World} (h : CR g b cap T w B d L n c0 c1 c2 c3 V) : CR g b cap T w B d L n c0 c1 c2 c3 V.drew :=
 ⟨h.1.drew, h.2.1, h.2.2.1, h.2.2.2.1.drew, h.2.2.2.2.1.drewR, h.2.2.2.2.2⟩
theorem CR.kp {g b cap : Nat} {T : List Tk} {w : World} {B d : Nat} {L L' : List Tk} {n : Nd} {c0 c1 c2 c3 : Value} {V V' : World} (h : CR g b cap T w B d L n c0 c1 c2 c3 V) (hg : g < w.heap.size) (hk : Kp g V V') (hp : RS g b cap T V' L' d) (he : EndL (mL L')) : CR g b cap T w B d L' n c0 c1 c2 c3 V' :=
 ⟨h.1.trans hk, hk.bx h.2.1 (by omega), hk.bx h.2.2.1 (by have := h.2.2.2.2.2.1; omega), hp, h.2.2.2.2.1.kp hk (fun c hc => ⟨hc, by omega⟩), h.2.2.2.2.2.1, he⟩
theorem CR.put {g b cap : Nat} {T : List Tk} {w : World} {B d : Nat} {L L' : List Tk} {n n' : Nd} {c0 c1 c2 c3 d0 d1 d2 d3 : Value} {V V' : World} (h : CR g b cap T w B d L n c0 c1 c2 c3 V) (hg : g < w.heap.size) (hbl : b < w.heap.size) (hk : Kp g V V') (hp : RS g b cap T V' L' d) (he : EndL (mL L'))
  (hn : NdAt (fun c => (w.heap.size + 1 ≤ c ∧ c ≠ B) ∨ V.heap.size ≤ c) V' n' [d0, d1, d2, d3]) : CR g b cap T w B d L' n' d0 d1 d2 d3 (V'.setCells B 0 [d0, d1, d2, d3]) := by
 have hB := h.2.2.1.1
 have hB2 := h.2.2.2.2.2.1
 have hB' := hk.bx h.2.2.1 (by omega)
 obtain ⟨q1, q2, q3, q4⟩ := fin4 [] d0 d1 d2 d3 (h.1.trans hk) (by omega) hB'
 have hz := h.1.size
 have hz2 := h.2.1.1
 exact ⟨q1, (hk.bx h.2.1 (by omega)).setOther (by omega) _, q2, hp.off q3 q4 (by omega) (by omega), hn.off q3 q4 (fun c hc => ⟨by omega, by omega⟩), hB2, he⟩
def txN (L : List Tk) (k : Nat) : ByteArray := match L[k]? with | some q => q.2.1 | none => ⟨#[]⟩
def kdN (L : List Tk) (k : Nat) : Int := match L[k]? with | some q => q.1 | none => 0
theorem drop_01 (L : List Tk) (i : Nat) : (L.drop (i + 1))[0]? = L[i + 1]? ∧ (L.drop (i + 1))[1]? = L[i + 2]? := by
 rw [List.getElem?_drop, List.getElem?_drop]; exact ⟨rfl, rfl⟩
theorem dg_eq (p : Tk) (L : List Tk) (i : Nat) : dgT p (L.drop (i + 1)) = if (aftT L (i + 1) (p.2.2 + (p.2.1.size : Int)) && decide (txN L (i + 1) = dotB) && aftT L (i + 2) (p.2.2 + (p.2.1.size : Int) + 1) && decide (kdN L (i + 2) = 1)) = true then p.2.1 ++ dotB ++ txN L (i + 2) else p.2.1 := by
 obtain ⟨h0, h1⟩ := drop_01 L i
 unfold aftT txN kdN
 rw [← h0, ← h1]
 match L.drop (i + 1) with
 | [] => rfl
 | [q] => rw [dgT, if_neg (by simp)]; intro r l; simp
 | q :: r :: l =>
  rw [dgT]
  simp only [List.getElem?_cons_zero, List.getElem?_cons_succ, Bool.and_eq_true, decide_eq_true_eq, and_assoc]
theorem sg_eq (p : Tk) (L : List Tk) (i : Nat) : sgT p (L.drop (i + 1)) = if (aftT L (i + 1) (p.2.2 + (p.2.1.size : Int)) && isPr (p.2.1 ++ txN L (i + 1))) = true then p.2.1 ++ txN L (i + 1) else p.2.1 := by
 obtain ⟨h0, h1⟩ := drop_01 L i
 unfold aftT txN
 rw [← h0]
 match L.drop (i + 1) with
 | [] => rfl
 | q :: l =>
  rw [sgT]
  simp only [List.getElem?_cons_zero, Bool.and_eq_true, decide_eq_true_eq]
theorem nm_eq (t : ByteArray) (e : Int) (L : List Tk) (j : Nat) : nmT t e (L.drop (j + 1)) = if (aftT L (j + 1) e && decide (kdN L (j + 1) < 3)) = true then nmT (t ++ txN L (j + 1)) (e + ((txN L (j + 1)).size : Int)) (L.drop (j + 2)) else t := by
 have h2 : L.drop (j + 2) = (L.drop (j + 1)).drop 1 := by rw [List.drop_drop]
 obtain ⟨h0, h1⟩ := drop_01 L j
 unfold aftT txN kdN
 rw [← h0, h2]
 match L.drop (j + 1) with
 | [] => rfl
 | q :: l =>
  rw [nmT]
  simp only [List.getElem?_cons_zero, Bool.and_eq_true, decide_eq_true_eq, List.drop_succ_cons, List.drop_zero]
theorem aft_some {L : List Tk} {k : Nat} {e : Int} (h : aftT L k e = true) : ∃ q, L[k]? = some q ∧ k < L.length ∧ txN L k = q.2.1 ∧ kdN L k = q.1 := by
 unfold aftT at h
 cases hq : L[k]? with
 | none => rw [hq] at h; cases h
 | some q => exact ⟨q, rfl, (List.getElem?_eq_some_iff.1 hq).1, by unfold txN; rw [hq], by unfold kdN; rw [hq]⟩
theorem PV.cells {b cap : Nat} {L : List Tk} {V : World} (h : PV b 0 cap L V) {k : Nat} {q : Tk} (hq : L[k]? = some q) : V.cell? ⟨b, k * 3, none⟩ = some (vi ki q.1) ∧ V.cell? ⟨b, k * 3 + 1, none⟩ = some (vS q.2.1) ∧ V.cell? ⟨b, k * 3 + 2, none⟩ = some (vi ki q.2.2) ∧ q.2.1.size ≤ 4096 := by
 obtain ⟨⟨q1, q2, q3⟩, q4, q5, q6⟩ := h.2.2.2.2 k q hq
 rw [Nat.zero_add] at q1 q2 q3
 exact ⟨q1, q2, q3, q6⟩
theorem one_any (b cap i : Nat) (L : List Tk) (p : Tk) (hp : L[i]? = some p) (w : World) (h : PV b 0 cap L w) :
  Calls Tryd.prog 34 #[vL (some ⟨b, 0, none⟩) L.length cap, vi ki (i : Int)] w fun e w' => e = zr (.agg #[vi ki (oneT p (L.drop (i + 1))).1, vS (oneT p (L.drop (i + 1))).2.1, vi ki (oneT p (L.drop (i + 1))).2.2]) ∧ Below w.heap.size w w' := by
 obtain ⟨RR, hRR⟩ : ∃ RR, RR = oneT p (L.drop (i + 1)) := ⟨_, rfl⟩
 rw [← hRR]
 have HRR : Hid (RR = oneT p (L.drop (i + 1))) := hRR
 clear hRR
 have hil : i < L.length := (List.getElem?_eq_some_iff.1 hp).1
 have hll := h.2.1
 have hlc := h.2.2.1
 have hcc := h.2.2.2.1
 have hb := h.1
 obtain ⟨c0, c1, c2, hps⟩ := h.cells hp
 obtain ⟨-, ha0, ha1, -⟩ := h.2.2.2.2 i p hp
 have HP : Hid (PV b 0 cap L w) := h
 have HpL : Hid (L[i]? = some p) := hp
 have hiI : (i : Int) < (L.length : Int) := by omega
 have hi0 : (0 : Int) ≤ (i : Int) := by omega
 have hlI : (L.length : Int) ≤ 4096 := by omega
 obtain ⟨E, hE⟩ : ∃ E : Int, E = p.2.2 + (p.2.1.size : Int) := ⟨_, rfl⟩
 have hEw : IntKind.i64.wrap (p.2.2 + (p.2.1.size : Int)) = E := by rw [IntKind.wrap_i64]; omega
 have HE : Hid (p.2.2 + (p.2.1.size : Int) = E) := hE.symm
 have hE0 : 0 ≤ E := by omega
 have hE1 : E ≤ 8192 := by omega
 clear hE h hp
 obtain ⟨i1, hi1⟩ : ∃ i1, i1 = i + 1 := ⟨_, rfl⟩
 have hw1 : IntKind.i64.wrap ((i : Int) + 1) = (i1 : Int) := by rw [IntKind.wrap_i64]; omega
 obtain ⟨i2, hi2⟩ : ∃ i2, i2 = i + 2 := ⟨_, rfl⟩
 have hw2 : IntKind.i64.wrap ((i : Int) + 2) = (i2 : Int) := by rw [IntKind.wrap_i64]; omega
 have hi1' : (0 : Int) ≤ (i1 : Int) := by omega
 have hi2' : (0 : Int) ≤ (i2 : Int) := by omega
 have HI : Hid (i1 = i + 1 ∧ i2 = i + 2) := ⟨hi1, hi2⟩
 have HAf : Hid (∀ (V : World) (k : Nat) (a : Int), k ≤ 5000 → Below w.heap.size w V → Calls Tryd.prog 55 #[vL (some ⟨b, 0, none⟩) L.length cap, vi ki (k : Int), vi ki a] V fun e w' => e = zr (.bool (aftT L k a)) ∧ w' = V) := fun V k a hk hV => after_any b cap L k hk a V (HP.out.below hV)
 have hk1 : i1 ≤ 5000 := by omega
 have hk2 : i2 ≤ 5000 := by omega
 clear hi1 hi2
 have B0 : Hid (BS w [(w.heap.size + 1 + 1, [vi ki 4, vS p.2.1, vi ki p.2.2]), (w.heap.size + 1, [vi ki p.1, vS p.2.1, vi ki p.2.2]), (w.heap.size, [vi ki 0, vS ⟨#[]⟩, vi ki 0])] (((w.alloc (.cells #[vi ki 0, vS ⟨#[]⟩, vi ki 0] 59)).alloc (.cells #[vi ki p.1, vS p.2.1, vi ki p.2.2] 86)).alloc (.cells #[vi ki 4, vS p.2.1, vi ki p.2.2] 59))) :=
  (((BS.start w).new [vi ki 0, vS ⟨#[]⟩, vi ki 0] 59 rfl).new [vi ki p.1, vS p.2.1, vi ki p.2.2] 86 (by simp)).new [vi ki 4, vS p.2.1, vi ki p.2.2] 59 (by simp)
 go_enter Tryd.func34, Tryd.ntmps34
 go_upto_region 4 with fail
 refine gen_to (fun V => BS w [(w.heap.size + 1 + 1, [vi ki 4, vS p.2.1, vi ki p.2.2]), (w.heap.size + 1, [vi ki p.1, vS p.2.1, vi ki p.2.2]), (w.heap.size, [vi ki 0, vS ⟨#[]⟩, vi ki 0])] V) B0.out ?_
 clear B0 c0 c1 c2
 intro W1 hW1
 have K1 : Hid (BS w [(w.heap.size + 1 + 1, [vi ki 4, vS p.2.1, vi ki p.2.2]), (w.heap.size + 1, [vi ki p.1, vS p.2.1, vi ki p.2.2]), (w.heap.size, [vi ki 0, vS ⟨#[]⟩, vi ki 0])] W1) := hW1
 clear hW1
 have d0 := bsc K1.out 1 0
 have dh := (K1.out.at (w.heap.size + 1) [vi ki p.1, vS p.2.1, vi ki p.2.2] (by simp)).1
 by_cases k1 : p.1 = 1
 ·have g1 : (p.1 == 1) = true := by rw [k1]; rfl
  have HRk : Hid (RR = (1, dgT p (L.drop (i + 1)), p.2.2)) := by show _ = _; rw [HRR.out]; unfold oneT; rw [if_pos k1]
  have g1p : (p.1 = 1) = True := eq_true k1
  clear HRR k1
  have t0 := K1.out.first.c 0 rfl
  have t0f := K1.out.first.f 0 rfl
  have th := K1.out.first.1
  have K2a := BS.set1 K1.out 0 (vi ki 1) (by simp) (by simp; omega)
  have K2b : Hid (BS w [(w.heap.size + 1 + 1, [vi ki 1, vS p.2.1, vi ki p.2.2]), (w.heap.size + 1, [vi ki p.1, vS p.2.1, vi ki p.2.2]), (w.heap.size, [vi ki 0, vS ⟨#[]⟩, vi ki 0])] (W1.setCell ⟨w.heap.size + 1 + 1, 0, none⟩ (vi ki 1))) := K2a
  clear K2a
  go_upto_region 9 with fail
  refine gen_to (fun V => BS w [(w.heap.size + 1 + 1, [vi ki 1, vS p.2.1, vi ki p.2.2]), (w.heap.size + 1, [vi ki p.1, vS p.2.1, vi ki p.2.2]), (w.heap.size, [vi ki 0, vS ⟨#[]⟩, vi ki 0])] V) K2b.out ?_
  clear K2b K1 t0 t0f th d0 dh
  intro W2 hW2
  have K2 : Hid (BS w [(w.heap.size + 1 + 1, [vi ki 1, vS p.2.1, vi ki p.2.2]), (w.heap.size + 1, [vi ki p.1, vS p.2.1, vi ki p.2.2]), (w.heap.size, [vi ki 0, vS ⟨#[]⟩, vi ki 0])] W2) := hW2
  clear hW2
  have hdg := dg_eq p L i
  rw [HE.out, ← HI.out.1, ← HI.out.2] at hdg
  rw [← HI.out.1] at HRk
  obtain ⟨C, hC⟩ : ∃ C : Bool, C = (aftT L i1 E && decide (txN L i1 = dotB) && aftT L i2 (E + 1) && decide (kdN L i2 = 1)) := ⟨_, rfl⟩
  rw [← hC] at hdg
  have HC : Hid _ := hC
  have HDG : Hid _ := hdg
  clear hC hdg
  have hEw1 : IntKind.i64.wrap (E + 1) = E + 1 := by rw [IntKind.wrap_i64]; omega
  go_cut [85] from 55 to 85 (fun t V => t = .bool C ∧ W2 = V)
  case first =>
   have HA1 := HAf.out W2 i1 E hk1 K2.out.1
   cases h1 : aftT L i1 E with
   | false =>
    rw [h1] at HA1
    have HAa : Hid _ := HA1
    have HV : Hid (C = false) := by show _ = _; rw [HC.out, h1]; rfl
    clear HA1
    go_wp2_with fail
    refine Calls.mono HAa.out ?_
    rintro e V ⟨rfl, rfl⟩
    go_wp2_with fail
    go_meet
    case rel => exact ⟨by rw [HV.out], rfl⟩
   | true =>
    rw [h1] at HA1
    have HAa : Hid _ := HA1
    clear HA1
    obtain ⟨q, hq, hql, ht, hk⟩ := aft_some h1
    obtain ⟨-, q1, -, -⟩ := (HP.out.below K2.out.1).cells hq
    have hqI : (i1 : Int) < (L.length : Int) := by omega
    have hbW := Nat.lt_of_lt_of_le hb K2.out.1.size
    go_wp2_with fail
    refine Calls.mono HAa.out ?_
    rintro e V ⟨rfl, rfl⟩
    by_cases hd : q.2.1 = dotB
    ·have hd1 : (q.2.1.toList == [46]) = true := (lit_eq _ [46]).trans (decide_eq_true hd)
     have HA2 := HAf.out V i2 (E + 1) hk2 K2.out.1
     cases h2 : aftT L i2 (E + 1) with
     | false =>
      rw [h2] at HA2
      have HAb : Hid _ := HA2
      have HV : Hid (C = false) := by show _ = _; rw [HC.out, h2]; simp
      clear HA2 hq ht hk hd
      go_wp2_with fail
      refine Calls.mono HAb.out ?_
      rintro e V2 ⟨rfl, rfl⟩
      go_wp2_with fail
      go_meet
      case rel => exact ⟨by rw [HV.out], rfl⟩
     | true =>
      rw [h2] at HA2
      have HAb : Hid _ := HA2
      obtain ⟨r, hr, hrl, ht2, hk2'⟩ := aft_some h2
      obtain ⟨r0, -, -, -⟩ := (HP.out.below K2.out.1).cells hr
      have hrI : (i2 : Int) < (L.length : Int) := by omega
      by_cases h3 : r.1 = 1
      ·have h3' : (r.1 == 1) = true := by simpa using h3
       have HV : Hid (C = true) := by show _ = _; rw [HC.out, h1, h2, ht, hk2', hd, h3]; simp
       clear HA2 hq ht hk hd hr ht2 hk2' h3
       go_wp2_with fail
       refine Calls.mono HAb.out ?_
       rintro e V2 ⟨rfl, rfl⟩
       go_wp2_with fail
       go_meet
       case rel => exact ⟨by rw [HV.out], rfl⟩
      ·have h3' : (r.1 == 1) = false := by simpa using h3
       have HV : Hid (C = false) := by show _ = _; rw [HC.out, hk2', decide_eq_false h3, Bool.and_false]
       clear HA2 hq ht hk hd hr ht2 hk2' h3
       go_wp2_with fail
       refine Calls.mono HAb.out ?_
       rintro e V2 ⟨rfl, rfl⟩
       go_wp2_with fail
       go_meet
       case rel => exact ⟨by rw [HV.out], rfl⟩
    ·have hd1 : (q.2.1.toList == [46]) = false := (lit_eq _ [46]).trans (decide_eq_false hd)
     have HV : Hid (C = false) := by show _ = _; rw [HC.out, ht, decide_eq_false hd]; simp
     clear hq ht hk hd
     go_wp2_with fail
     go_meet
     case rel => exact ⟨by rw [HV.out], rfl⟩
  case rest =>
   obtain ⟨rfl, rfl⟩ := hcut
   cases C with
   | true =>
    have hCC := HC.out
    symm at hCC
    rw [Bool.and_eq_true, Bool.and_eq_true, Bool.and_eq_true] at hCC
    obtain ⟨r, hr, hrl, ht2, -⟩ := aft_some hCC.1.2
    have hrI : (i2 : Int) < (L.length : Int) := by omega
    obtain ⟨q, hq, hql, -, -⟩ := aft_some hCC.1.1.1
    have hqI : (i1 : Int) < (L.length : Int) := by omega
    have HRv : Hid (RR = (1, (p.2.1 ++ dotB ++ r.2.1), p.2.2)) := by show _ = _; rw [HRk.out, HI.out.1, ← HI.out.1, HDG.out, if_pos rfl, ht2]
    clear hCC hq ht2 HC HDG HRk
    have hrs := (HP.out.cells hr).2.2.2
    have s1 : ¬ 9223372036854775807 < p.2.1.size + 1 := by omega
    have s2 : ¬ 9223372036854775807 < p.2.1.size + 1 + r.2.1.size := by omega
    have s3 : ¬ 9223372036854775807 < (p.2.1 ++ ⟨#[46]⟩).size + r.2.1.size := by rw [ByteArray.size_append]; exact s2
    go_upto_region 10 with fail
    refine wp_region_held_drew (S := (fun V => PV b 0 cap L V)) (by kernel_rfl) (by first | exact HP.out.below K2.out.1 | exact HP.out.below K2.out.drew.1) (fun hHeld => ?_)
    refine gen_anyR (fun V => BS w [(w.heap.size + 1 + 1, [vi ki 1, vS p.2.1, vi ki p.2.2]), (w.heap.size + 1, [vi ki p.1, vS p.2.1, vi ki p.2.2]), (w.heap.size, [vi ki 0, vS ⟨#[]⟩, vi ki 0])] V) (by first | exact K2.out.drew | exact K2.out) ?_
    clear hHeld K2
    intro W3 kk
    have K2 : Hid (BS w [(w.heap.size + 1 + 1, [vi ki 1, vS p.2.1, vi ki p.2.2]), (w.heap.size + 1, [vi ki p.1, vS p.2.1, vi ki p.2.2]), (w.heap.size, [vi ki 0, vS ⟨#[]⟩, vi ki 0])] W3) := kk
    clear kk
    have hHeld : (fun V => PV b 0 cap L V) W3 := (by first | exact HP.out.below K2.out.1 | exact HP.out.below K2.out.drew.1)
    refine tks 0 (oi := ⟨some 86, _, _, _, _, none⟩) ?_
    simp only [za, zb, zc, zd]
    refine tks 3 (oi := ⟨some 89, _, _, _, _, none⟩) ?_
    simp only [za, zb, zc, zd]
    refine tks 4 (oi := ⟨some 90, _, _, _, _, none⟩) ?_
    simp only [za, zb, zc, zd]
    refine tks 5 (oi := ⟨some 91, _, _, _, _, none⟩) ?_
    simp only [za, zb, zc, zd]
    refine tks 6 (oi := ⟨some 92, _, _, _, _, none⟩) ?_
    simp only [za, zb, zc, zd]
    refine tks 7 (oi := ⟨some 93, _, _, _, _, none⟩) ?_
    simp only [za, zb, zc, zd]
    refine tk (v := ?_) 8 (oi := ⟨some 94, _, _, _, _, none⟩) ?_ ?_
    case refine_2 => (intro w9 hSw; obtain ⟨r0, r1, r2, r3⟩ := PV.cells hSw hr; have r9 := hSw.1; clear hSw; go_simp; try with_reducible rfl)
    simp only [za, zb, zc, zd]
    refine rd 1 (fun K hK => ?_)
    have x1 := K2.out.first.c 1 rfl
    have xh := K2.out.first.1
    go_simp
    refine hK.out _ _ hHeld (fun hHeld => ?_)
    clear hK K x1 xh
    refine tks 2 (oi := ⟨some 88, _, _, _, _, none⟩) ?_
    simp only [za, zb, zc, zd]
    refine tks 9 (oi := ⟨some 95, _, _, _, _, none⟩) ?_
    simp only [za, zb, zc, zd]
    refine tks 10 (oi := ⟨some 96, _, _, _, _, none⟩) ?_
    simp only [za, zb, zc, zd]
    refine rd 11 (fun K hK => ?_)
    have x1 := K2.out.first.c 1 rfl
    have x1f := K2.out.first.f 1 rfl
    have xh := K2.out.first.1
    have KSa := BS.set1 K2.out 1 (vS (p.2.1 ++ dotB ++ r.2.1)) (by simp) (by simp; omega)
    have KS : Hid (BS w [(w.heap.size + 1 + 1, [vi ki 1, vS (p.2.1 ++ dotB ++ r.2.1), vi ki p.2.2]), (w.heap.size + 1, [vi ki p.1, vS p.2.1, vi ki p.2.2]), (w.heap.size, [vi ki 0, vS ⟨#[]⟩, vi ki 0])] (W3.setCell ⟨w.heap.size + 1 + 1, 1, none⟩ (vS (p.2.1 ++ dotB ++ r.2.1)))) := KSa
    clear KSa
    go_simp
    refine hK.out _ _ (HP.out.below KS.out.1) (fun hHeld => ?_)
    clear hK K x1 x1f xh hHeld
    refine gen_anyR (fun V => BS w [(w.heap.size + 1 + 1, [vi ki 1, vS (p.2.1 ++ dotB ++ r.2.1), vi ki p.2.2]), (w.heap.size + 1, [vi ki p.1, vS p.2.1, vi ki p.2.2]), (w.heap.size, [vi ki 0, vS ⟨#[]⟩, vi ki 0])] V) KS.out ?_
    clear KS K2
    intro v2 kk
    have K2 : Hid (BS w [(w.heap.size + 1 + 1, [vi ki 1, vS (p.2.1 ++ dotB ++ r.2.1), vi ki p.2.2]), (w.heap.size + 1, [vi ki p.1, vS p.2.1, vi ki p.2.2]), (w.heap.size, [vi ki 0, vS ⟨#[]⟩, vi ki 0])] v2) := kk
    clear kk
    have hHeld : (fun V => PV b 0 cap L V) v2 := HP.out.below K2.out.1
    refine dn ?_
    have x0 := K2.out.first.c 0 rfl
    have x1 := K2.out.first.c 1 rfl
    have x2 := K2.out.first.c 2 rfl
    have xh := K2.out.first.1
    have hz := K2.out.at w.heap.size [vi ki 0, vS ⟨#[]⟩, vi ki 0] (by simp)
    have z0 := hz.c 0 rfl
    have z1 := hz.c 1 rfl
    have z2 := hz.c 2 rfl
    have zf0 := hz.f 0 rfl
    have zf1 := hz.f 1 rfl
    have zf2 := hz.f 2 rfl
    have zh := hz.1
    have FB := hz.setAll [vi ki 1, vS (p.2.1 ++ dotB ++ r.2.1), vi ki p.2.2] rfl
    have y0' := FB.c 0 rfl
    have y1' := FB.c 1 rfl
    have y2' := FB.c 2 rfl
    simp only [World.setCells, Nat.zero_add, Nat.reduceAdd] at y0' y1' y2'
    clear hz FB
    go_wp2
    refine bodyPost_ret (v := .agg #[vi ki 1, vS (p.2.1 ++ dotB ++ r.2.1), vi ki p.2.2]) (by simp [results, Tryd.results34, go_sem, y0', y1', y2']) rfl ⟨by rw [HRv.out], below_setCells (Nat.le_refl _) [vi ki 1, vS (p.2.1 ++ dotB ++ r.2.1), vi ki p.2.2] _ 0 K2.out.1⟩
   | false =>
    have HRv : Hid (RR = (1, p.2.1, p.2.2)) := by show _ = _; rw [HRk.out, HDG.out, if_neg (by simp)]
    clear HC HDG HRk
    have x0 := K2.out.first.c 0 rfl
    have x1 := K2.out.first.c 1 rfl
    have x2 := K2.out.first.c 2 rfl
    have xh := K2.out.first.1
    have hz := K2.out.at w.heap.size [vi ki 0, vS ⟨#[]⟩, vi ki 0] (by simp)
    have z0 := hz.c 0 rfl
    have z1 := hz.c 1 rfl
    have z2 := hz.c 2 rfl
    have zf0 := hz.f 0 rfl
    have zf1 := hz.f 1 rfl
    have zf2 := hz.f 2 rfl
    have zh := hz.1
    have FB := hz.setAll [vi ki 1, vS p.2.1, vi ki p.2.2] rfl
    have y0' := FB.c 0 rfl
    have y1' := FB.c 1 rfl
    have y2' := FB.c 2 rfl
    simp only [World.setCells, Nat.zero_add, Nat.reduceAdd] at y0' y1' y2'
    clear hz FB
    go_wp2
    refine bodyPost_ret (v := .agg #[vi ki 1, vS p.2.1, vi ki p.2.2]) (by simp [results, Tryd.results34, go_sem, y0', y1', y2']) rfl ⟨by rw [HRv.out], below_setCells (Nat.le_refl _) [vi ki 1, vS p.2.1, vi ki p.2.2] _ 0 K2.out.1⟩
 ·by_cases k2 : p.1 = 2
  ·have g1 : (p.1 == 1) = false := by rw [beq_eq_false_iff_ne]; omega
   have g2 : (p.1 == 2) = true := by rw [k2]; rfl
   have HRk : Hid (RR = (2, nmT p.2.1 E (L.drop (i + 1)), p.2.2)) := by show _ = _; rw [HRR.out, ← HE.out]; unfold oneT; rw [if_neg (by omega), if_pos k2]
   have g1p : (p.1 = 1) = False := eq_false k1
   have g2p : (p.1 = 2) = True := eq_true k2
   clear HRR k1 k2
   have t0 := K1.out.first.c 0 rfl
   have t0f := K1.out.first.f 0 rfl
   have th := K1.out.first.1
   have K2a := BS.set1 K1.out 0 (vi ki 2) (by simp) (by simp; omega)
   have K2b : Hid (BS w [(w.heap.size + 1 + 1, [vi ki 2, vS p.2.1, vi ki p.2.2]), (w.heap.size + 1, [vi ki p.1, vS p.2.1, vi ki p.2.2]), (w.heap.size, [vi ki 0, vS ⟨#[]⟩, vi ki 0])] (W1.setCell ⟨w.heap.size + 1 + 1, 0, none⟩ (vi ki 2))) := K2a
   clear K2a
   obtain ⟨RT, hRT⟩ : ∃ RT, nmT p.2.1 E (L.drop (i + 1)) = RT := ⟨_, rfl⟩
   rw [hRT] at HRk
   have HRT : Hid _ := hRT
   clear hRT hw1 hw2 hi1' hi2' hk1 hk2 HI
   have hts : p.2.1.size ≤ 4096 * (i + 1) := by omega
   have hES : E ≤ 8192 * (i + 1) := by omega
   go_wp2_with fail
   go_loopw [1, 7] (fun iv ev V => ∃ (j : Nat) (t : ByteArray) (e : Int), iv = vi ki (j : Int) ∧ ev = vi ki e ∧ j < L.length ∧ 0 ≤ e ∧ e ≤ 8192 * (j + 1) ∧ t.size ≤ 4096 * (j + 1) ∧ Hid (BS w [(w.heap.size + 1 + 1, [vi ki 2, vS t, vi ki p.2.2]), (w.heap.size + 1, [vi ki p.1, vS p.2.1, vi ki p.2.2]), (w.heap.size, [vi ki 0, vS ⟨#[]⟩, vi ki 0])] V) ∧ Hid (nmT t e (L.drop (j + 1)) = RT)) (fun iv _ _ => L.length - (intOf iv).toNat)
   case atStart => exact ⟨i, p.2.1, E, rfl, rfl, hil, hE0, by omega, hts, K2b, HRT⟩
   case round =>
    obtain ⟨j, t, e, rfl, rfl, hjl, he0, he1, ht9, K2, HN⟩ := hrel
    clear K2b HRT K1 t0 t0f th d0 dh
    have hj0 : (0 : Int) ≤ (j : Int) := by omega
    have hnm := nm_eq t e L j
    rw [HN.out] at hnm
    obtain ⟨j1, hj1⟩ : ∃ j1, j1 = j + 1 := ⟨_, rfl⟩
    have hw1 : IntKind.i64.wrap ((j : Int) + 1) = (j1 : Int) := by rw [IntKind.wrap_i64]; omega
    have hj1' : (0 : Int) ≤ (j1 : Int) := by omega
    have HJ : Hid (j1 = j + 1) := hj1
    have hk1 : j1 ≤ 5000 := by omega
    rw [← hj1] at hnm
    have HA1 := HAf.out wr j1 e hk1 K2.out.1
    clear hj1
    cases h1 : aftT L j1 e with
    | false =>
     rw [h1] at HA1 hnm
     rw [if_neg (by simp)] at hnm
     have HRv : Hid (RR = (2, t, p.2.2)) := by show _ = _; rw [HRk.out, hnm]
     have HAa : Hid _ := HA1
     clear HA1 hnm HN HRk
     go_wp2_with fail
     refine Calls.mono HAa.out ?_
     rintro e' V ⟨rfl, rfl⟩
     have x0 := K2.out.first.c 0 rfl
     have x1 := K2.out.first.c 1 rfl
     have x2 := K2.out.first.c 2 rfl
     have xh := K2.out.first.1
     have hz := K2.out.at w.heap.size [vi ki 0, vS ⟨#[]⟩, vi ki 0] (by simp)
     have z0 := hz.c 0 rfl
     have z1 := hz.c 1 rfl
     have z2 := hz.c 2 rfl
     have zf0 := hz.f 0 rfl
     have zf1 := hz.f 1 rfl
     have zf2 := hz.f 2 rfl
     have zh := hz.1
     have FB := hz.setAll [vi ki 2, vS t, vi ki p.2.2] rfl
     have y0' := FB.c 0 rfl
     have y1' := FB.c 1 rfl
     have y2' := FB.c 2 rfl
     simp only [World.setCells, Nat.zero_add, Nat.reduceAdd] at y0' y1' y2'
     clear hz FB
     go_wp2
     refine bodyPost_ret (v := .agg #[vi ki 2, vS t, vi ki p.2.2]) (by simp [results, Tryd.results34, go_sem, y0', y1', y2']) rfl ⟨by rw [HRv.out], below_setCells (Nat.le_refl _) [vi ki 2, vS t, vi ki p.2.2] _ 0 K2.out.1⟩
    | true =>
     rw [h1] at HA1 hnm
     rw [Bool.true_and] at hnm
     have HAa : Hid _ := HA1
     obtain ⟨q, hq, hql, htx, hkd⟩ := aft_some h1
     rw [htx, hkd] at hnm
     obtain ⟨q0, q1, -, hqs⟩ := (HP.out.below K2.out.1).cells hq
     have hqI : (j1 : Int) < (L.length : Int) := by omega
     have hbW := Nat.lt_of_lt_of_le hb K2.out.1.size
     clear HA1
     by_cases h3 : q.1 < 3
     ·rw [if_pos (by simpa using h3)] at hnm
      have HN2 : Hid (nmT (t ++ q.2.1) (e + (q.2.1.size : Int)) (L.drop (j1 + 1)) = RT) := by show _ = _; rw [show j1 + 1 = j + 2 by have := HJ.out; omega]; exact hnm.symm
      clear hnm HN htx hkd
      go_wp2_with fail
      refine Calls.mono HAa.out ?_
      rintro e' V ⟨rfl, rfl⟩
      have s1 : ¬ 9223372036854775807 < t.size + q.2.1.size := by omega
      go_upto_region 15 with fail
      clear q0 q1
      refine wp_region_held_drew (S := (fun V => PV b 0 cap L V)) (by kernel_rfl) (by first | exact HP.out.below K2.out.1 | exact HP.out.below K2.out.drew.1) (fun hHeld => ?_)
      refine gen_anyR (fun V => BS w [(w.heap.size + 1 + 1, [vi ki 2, vS t, vi ki p.2.2]), (w.heap.size + 1, [vi ki p.1, vS p.2.1, vi ki p.2.2]), (w.heap.size, [vi ki 0, vS ⟨#[]⟩, vi ki 0])] V) (by first | exact K2.out.drew | exact K2.out) ?_
      clear hHeld K2
      intro W3 kk
      have K2 : Hid (BS w [(w.heap.size + 1 + 1, [vi ki 2, vS t, vi ki p.2.2]), (w.heap.size + 1, [vi ki p.1, vS p.2.1, vi ki p.2.2]), (w.heap.size, [vi ki 0, vS ⟨#[]⟩, vi ki 0])] W3) := kk
      clear kk
      have hHeld : (fun V => PV b 0 cap L V) W3 := (by first | exact HP.out.below K2.out.1 | exact HP.out.below K2.out.drew.1)
      refine tks 0 (oi := ⟨some 116, _, _, _, _, none⟩) ?_
      simp only [za, zb, zc, zd]
      refine tks 2 (oi := ⟨some 118, _, _, _, _, none⟩) ?_
      simp only [za, zb, zc, zd]
      refine tks 3 (oi := ⟨some 119, _, _, _, _, none⟩) ?_
      simp only [za, zb, zc, zd]
      refine tks 4 (oi := ⟨some 120, _, _, _, _, none⟩) ?_
      simp only [za, zb, zc, zd]
      refine tks 5 (oi := ⟨some 121, _, _, _, _, none⟩) ?_
      simp only [za, zb, zc, zd]
      refine tk (v := ?_) 6 (oi := ⟨some 122, _, _, _, _, none⟩) ?_ ?_
      case refine_2 => (intro w9 hSw; obtain ⟨r0, r1, r2, r3⟩ := PV.cells hSw hq; have r9 := hSw.1; clear hSw; go_simp; try with_reducible rfl)
      simp only [za, zb, zc, zd]
      refine rd 1 (fun K hK => ?_)
      have x1 := K2.out.first.c 1 rfl
      have xh := K2.out.first.1
      go_simp
      refine hK.out _ _ hHeld (fun hHeld => ?_)
      clear hK K x1 xh
      refine tks 7 (oi := ⟨some 123, _, _, _, _, none⟩) ?_
      simp only [za, zb, zc, zd]
      refine tks 8 (oi := ⟨some 124, _, _, _, _, none⟩) ?_
      simp only [za, zb, zc, zd]
      refine rd 9 (fun K hK => ?_)
      have x1 := K2.out.first.c 1 rfl
      have x1f := K2.out.first.f 1 rfl
      have xh := K2.out.first.1
      have KSa := BS.set1 K2.out 1 (vS (t ++ q.2.1)) (by simp) (by simp; omega)
      have KS : Hid (BS w [(w.heap.size + 1 + 1, [vi ki 2, vS (t ++ q.2.1), vi ki p.2.2]), (w.heap.size + 1, [vi ki p.1, vS p.2.1, vi ki p.2.2]), (w.heap.size, [vi ki 0, vS ⟨#[]⟩, vi ki 0])] (W3.setCell ⟨w.heap.size + 1 + 1, 1, none⟩ (vS (t ++ q.2.1)))) := KSa
      clear KSa
      go_simp
      refine hK.out _ _ (HP.out.below KS.out.1) (fun hHeld => ?_)
      clear hK K x1 x1f xh hHeld
      refine gen_anyR (fun V => BS w [(w.heap.size + 1 + 1, [vi ki 2, vS (t ++ q.2.1), vi ki p.2.2]), (w.heap.size + 1, [vi ki p.1, vS p.2.1, vi ki p.2.2]), (w.heap.size, [vi ki 0, vS ⟨#[]⟩, vi ki 0])] V) KS.out ?_
      clear KS K2
      intro v2 kk
      have K2 : Hid (BS w [(w.heap.size + 1 + 1, [vi ki 2, vS (t ++ q.2.1), vi ki p.2.2]), (w.heap.size + 1, [vi ki p.1, vS p.2.1, vi ki p.2.2]), (w.heap.size, [vi ki 0, vS ⟨#[]⟩, vi ki 0])] v2) := kk
      clear kk
      have hHeld : (fun V => PV b 0 cap L V) v2 := HP.out.below K2.out.1
      refine dn ?_
      obtain ⟨r0, r1, r2, r3⟩ := (HP.out.below K2.out.1).cells hq
      have r9 := Nat.lt_of_lt_of_le hb K2.out.1.size
      have hew : IntKind.i64.wrap (e + (q.2.1.size : Int)) = e + (q.2.1.size : Int) := by rw [IntKind.wrap_i64]; omega
      clear hq
      go_wp2_with fail
      go_roundw
      case rel => exact ⟨j1, t ++ q.2.1, e + (q.2.1.size : Int), rfl, rfl, hql, by omega, by have := HJ.out; omega, by have := HJ.out; rw [ByteArray.size_append]; omega, K2, HN2⟩
      case measure => have := HJ.out; simp [intOf]; omega
     ·rw [if_neg (by simpa using h3)] at hnm
      have HRv : Hid (RR = (2, t, p.2.2)) := by show _ = _; rw [HRk.out, hnm]
      clear hnm HN htx hkd HRk hq
      go_wp2_with fail
      refine Calls.mono HAa.out ?_
      rintro e' V ⟨rfl, rfl⟩
      have x0 := K2.out.first.c 0 rfl
      have x1 := K2.out.first.c 1 rfl
      have x2 := K2.out.first.c 2 rfl
      have xh := K2.out.first.1
      have hz := K2.out.at w.heap.size [vi ki 0, vS ⟨#[]⟩, vi ki 0] (by simp)
      have z0 := hz.c 0 rfl
      have z1 := hz.c 1 rfl
      have z2 := hz.c 2 rfl
      have zf0 := hz.f 0 rfl
      have zf1 := hz.f 1 rfl
      have zf2 := hz.f 2 rfl
      have zh := hz.1
      have FB := hz.setAll [vi ki 2, vS t, vi ki p.2.2] rfl
      have y0' := FB.c 0 rfl
      have y1' := FB.c 1 rfl
      have y2' := FB.c 2 rfl
      simp only [World.setCells, Nat.zero_add, Nat.reduceAdd] at y0' y1' y2'
      clear hz FB
      go_wp2
      refine bodyPost_ret (v := .agg #[vi ki 2, vS t, vi ki p.2.2]) (by simp [results, Tryd.results34, go_sem, y0', y1', y2']) rfl ⟨by rw [HRv.out], below_setCells (Nat.le_refl _) [vi ki 2, vS t, vi ki p.2.2] _ 0 K2.out.1⟩
  ·have g1 : (p.1 == 1) = false := by rw [beq_eq_false_iff_ne]; exact k1
   have g2 : (p.1 == 2) = false := by rw [beq_eq_false_iff_ne]; exact k2
   have HRk : Hid (RR = (4, sgT p (L.drop (i + 1)), p.2.2)) := by show _ = _; rw [HRR.out]; unfold oneT; rw [if_neg k1, if_neg k2]
   have g1p : (p.1 = 1) = False := eq_false k1
   have g2p : (p.1 = 2) = False := eq_false k2
   clear HRR k1 k2
   have hsg := sg_eq p L i
   rw [HE.out, ← HI.out.1] at hsg
   rw [← HI.out.1] at HRk
   have HA1 := HAf.out W1 i1 E hk1 K1.out.1
   go_upto_region 5 with fail
   clear d0 dh
   cases h1 : aftT L i1 E with
   | false =>
    rw [h1] at hsg
    rw [Bool.false_and, if_neg (by simp)] at hsg
    rw [hsg] at HRk
    have HAa : Hid (∀ V : World, Below w.heap.size w V → Calls Tryd.prog 55 #[vL (some ⟨b, 0, none⟩) L.length cap, vi ki (i1 : Int), vi ki E] V fun e w' => e = zr (.bool false) ∧ w' = V) := fun V hV => by have := HAf.out V i1 E hk1 hV; rw [h1] at this; exact this
    clear HA1 hsg
    refine wp_region_held_drew (S := (fun V => PV b 0 cap L V ∧ Bx V (w.heap.size + 1) [vi ki p.1, vS p.2.1, vi ki p.2.2])) (by kernel_rfl) (by first | exact ⟨HP.out.below K1.out.1, K1.out.at (w.heap.size + 1) [vi ki p.1, vS p.2.1, vi ki p.2.2] (by simp)⟩ | exact ⟨HP.out.below K1.out.drew.1, K1.out.drew.at (w.heap.size + 1) [vi ki p.1, vS p.2.1, vi ki p.2.2] (by simp)⟩) (fun hHeld => ?_)
    refine gen_anyR (fun V => BS w [(w.heap.size + 1 + 1, [vi ki 4, vS p.2.1, vi ki p.2.2]), (w.heap.size + 1, [vi ki p.1, vS p.2.1, vi ki p.2.2]), (w.heap.size, [vi ki 0, vS ⟨#[]⟩, vi ki 0])] V) (by first | exact K1.out.drew | exact K1.out) ?_
    clear hHeld K1
    intro W2 kk
    have K1 : Hid (BS w [(w.heap.size + 1 + 1, [vi ki 4, vS p.2.1, vi ki p.2.2]), (w.heap.size + 1, [vi ki p.1, vS p.2.1, vi ki p.2.2]), (w.heap.size, [vi ki 0, vS ⟨#[]⟩, vi ki 0])] W2) := kk
    clear kk
    have hHeld : (fun V => PV b 0 cap L V ∧ Bx V (w.heap.size + 1) [vi ki p.1, vS p.2.1, vi ki p.2.2]) W2 := (by first | exact ⟨HP.out.below K1.out.1, K1.out.at (w.heap.size + 1) [vi ki p.1, vS p.2.1, vi ki p.2.2] (by simp)⟩ | exact ⟨HP.out.below K1.out.drew.1, K1.out.drew.at (w.heap.size + 1) [vi ki p.1, vS p.2.1, vi ki p.2.2] (by simp)⟩)
    refine tks 0 (oi := ⟨some 25, _, _, _, _, none⟩) ?_
    simp only [za, zb, zc, zd]
    refine tks 1 (oi := ⟨some 26, _, _, _, _, none⟩) ?_
    simp only [za, zb, zc, zd]
    refine tks 2 (oi := ⟨some 27, _, _, _, _, none⟩) ?_
    simp only [za, zb, zc, zd]
    refine tks 3 (oi := ⟨some 28, _, _, _, _, none⟩) ?_
    simp only [za, zb, zc, zd]
    refine rd 4 (fun K hK => ?_)
    go_simp
    refine (HAa.out _ K1.out.1).mono ?_
    rintro e v1 ⟨rfl, rfl⟩
    refine hK.out _ _ hHeld (fun hHeld => ?_)
    clear hK K
    refine tks 5 (oi := ⟨some 30, _, _, _, _, none⟩) ?_
    simp only [za, zb, zc, zd]
    refine tku 6 (oi := ⟨some 31, _, _, _, _, some (5, true)⟩) ?_
    simp only [za, zb, zc, zd]
    refine tku 7 (oi := ⟨some 32, _, _, _, _, some (5, true)⟩) ?_
    simp only [za, zb, zc, zd]
    refine tku 8 (oi := ⟨some 33, _, _, _, _, some (5, true)⟩) ?_
    simp only [za, zb, zc, zd]
    refine tku 9 (oi := ⟨some 34, _, _, _, _, some (5, true)⟩) ?_
    simp only [za, zb, zc, zd]
    refine tku 10 (oi := ⟨some 35, _, _, _, _, some (5, true)⟩) ?_
    simp only [za, zb, zc, zd]
    refine tku 11 (oi := ⟨some 36, _, _, _, _, some (5, true)⟩) ?_
    simp only [za, zb, zc, zd]
    refine tku 12 (oi := ⟨some 37, _, _, _, _, some (5, true)⟩) ?_
    simp only [za, zb, zc, zd]
    refine tku 13 (oi := ⟨some 38, _, _, _, _, some (5, true)⟩) ?_
    simp only [za, zb, zc, zd]
    refine tku 14 (oi := ⟨some 39, _, _, _, _, some (5, true)⟩) ?_
    simp only [za, zb, zc, zd]
    refine tku 15 (oi := ⟨some 40, _, _, _, _, some (5, true)⟩) ?_
    simp only [za, zb, zc, zd]
    refine tks 16 (oi := ⟨some 41, _, _, _, _, none⟩) ?_
    simp only [za, zb, zc, zd]
    refine dn ?_
    have x0 := K1.out.first.c 0 rfl
    have x1 := K1.out.first.c 1 rfl
    have x2 := K1.out.first.c 2 rfl
    have xh := K1.out.first.1
    have hz := K1.out.at w.heap.size [vi ki 0, vS ⟨#[]⟩, vi ki 0] (by simp)
    have z0 := hz.c 0 rfl
    have z1 := hz.c 1 rfl
    have z2 := hz.c 2 rfl
    have zf0 := hz.f 0 rfl
    have zf1 := hz.f 1 rfl
    have zf2 := hz.f 2 rfl
    have zh := hz.1
    have FB := hz.setAll [vi ki 4, vS p.2.1, vi ki p.2.2] rfl
    have y0' := FB.c 0 rfl
    have y1' := FB.c 1 rfl
    have y2' := FB.c 2 rfl
    simp only [World.setCells, Nat.zero_add, Nat.reduceAdd] at y0' y1' y2'
    clear hz FB
    go_wp2
    refine bodyPost_ret (v := .agg #[vi ki 4, vS p.2.1, vi ki p.2.2]) (by simp [results, Tryd.results34, go_sem, y0', y1', y2']) rfl ⟨by rw [HRk.out], below_setCells (Nat.le_refl _) [vi ki 4, vS p.2.1, vi ki p.2.2] _ 0 K1.out.1⟩
   | true =>
    rw [h1, Bool.true_and] at hsg
    obtain ⟨q, hq, hql, htx, hkd⟩ := aft_some h1
    rw [htx] at hsg
    have hqI : (i1 : Int) < (L.length : Int) := by omega
    have hqs := (HP.out.cells hq).2.2.2
    have s1 : ¬ 9223372036854775807 < p.2.1.size + q.2.1.size := by omega
    have HAa : Hid (∀ V : World, Below w.heap.size w V → Calls Tryd.prog 55 #[vL (some ⟨b, 0, none⟩) L.length cap, vi ki (i1 : Int), vi ki E] V fun e w' => e = zr (.bool true) ∧ w' = V) := fun V hV => by have := HAf.out V i1 E hk1 hV; rw [h1] at this; exact this
    clear HA1 htx hkd
    cases hpr : isPr (p.2.1 ++ q.2.1) with
    | false =>
     rw [hpr, if_neg (by simp)] at hsg
     rw [hsg] at HRk
     clear hsg
     refine wp_region_held_drew (S := (fun V => PV b 0 cap L V ∧ Bx V (w.heap.size + 1) [vi ki p.1, vS p.2.1, vi ki p.2.2])) (by kernel_rfl) (by first | exact ⟨HP.out.below K1.out.1, K1.out.at (w.heap.size + 1) [vi ki p.1, vS p.2.1, vi ki p.2.2] (by simp)⟩ | exact ⟨HP.out.below K1.out.drew.1, K1.out.drew.at (w.heap.size + 1) [vi ki p.1, vS p.2.1, vi ki p.2.2] (by simp)⟩) (fun hHeld => ?_)
     refine gen_anyR (fun V => BS w [(w.heap.size + 1 + 1, [vi ki 4, vS p.2.1, vi ki p.2.2]), (w.heap.size + 1, [vi ki p.1, vS p.2.1, vi ki p.2.2]), (w.heap.size, [vi ki 0, vS ⟨#[]⟩, vi ki 0])] V) (by first | exact K1.out.drew | exact K1.out) ?_
     clear hHeld K1
     intro W2 kk
     have K1 : Hid (BS w [(w.heap.size + 1 + 1, [vi ki 4, vS p.2.1, vi ki p.2.2]), (w.heap.size + 1, [vi ki p.1, vS p.2.1, vi ki p.2.2]), (w.heap.size, [vi ki 0, vS ⟨#[]⟩, vi ki 0])] W2) := kk
     clear kk
     have hHeld : (fun V => PV b 0 cap L V ∧ Bx V (w.heap.size + 1) [vi ki p.1, vS p.2.1, vi ki p.2.2]) W2 := (by first | exact ⟨HP.out.below K1.out.1, K1.out.at (w.heap.size + 1) [vi ki p.1, vS p.2.1, vi ki p.2.2] (by simp)⟩ | exact ⟨HP.out.below K1.out.drew.1, K1.out.drew.at (w.heap.size + 1) [vi ki p.1, vS p.2.1, vi ki p.2.2] (by simp)⟩)
     refine tks 0 (oi := ⟨some 25, _, _, _, _, none⟩) ?_
     simp only [za, zb, zc, zd]
     refine tks 1 (oi := ⟨some 26, _, _, _, _, none⟩) ?_
     simp only [za, zb, zc, zd]
     refine tks 2 (oi := ⟨some 27, _, _, _, _, none⟩) ?_
     simp only [za, zb, zc, zd]
     refine tks 3 (oi := ⟨some 28, _, _, _, _, none⟩) ?_
     simp only [za, zb, zc, zd]
     refine rd 4 (fun K hK => ?_)
     go_simp
     refine (HAa.out _ K1.out.1).mono ?_
     rintro e v1 ⟨rfl, rfl⟩
     refine hK.out _ _ hHeld (fun hHeld => ?_)
     clear hK K
     refine tks 5 (oi := ⟨some 30, _, _, _, _, none⟩) ?_
     simp only [za, zb, zc, zd]
     refine tks 6 (oi := ⟨some 31, _, _, _, _, some (5, true)⟩) ?_
     simp only [za, zb, zc, zd]
     refine tk (v := ?_) 7 (oi := ⟨some 32, _, _, _, _, some (5, true)⟩) ?_ ?_
     case refine_2 => (intro w9 hSw; obtain ⟨r0, r1, r2, r3⟩ := PV.cells hSw.1 hq; have r9 := hSw.1.1; have u1 := hSw.2.c 1 rfl; have u9 := hSw.2.1; clear hSw; go_simp; try with_reducible rfl)
     simp only [za, zb, zc, zd]
     refine tks 8 (oi := ⟨some 33, _, _, _, _, some (5, true)⟩) ?_
     simp only [za, zb, zc, zd]
     refine tks 9 (oi := ⟨some 34, _, _, _, _, some (5, true)⟩) ?_
     simp only [za, zb, zc, zd]
     refine tks 10 (oi := ⟨some 35, _, _, _, _, some (5, true)⟩) ?_
     simp only [za, zb, zc, zd]
     refine tks 11 (oi := ⟨some 36, _, _, _, _, some (5, true)⟩) ?_
     simp only [za, zb, zc, zd]
     refine tks 12 (oi := ⟨some 37, _, _, _, _, some (5, true)⟩) ?_
     simp only [za, zb, zc, zd]
     refine tk (v := ?_) 13 (oi := ⟨some 38, _, _, _, _, some (5, true)⟩) ?_ ?_
     case refine_2 => (intro w9 hSw; obtain ⟨r0, r1, r2, r3⟩ := PV.cells hSw.1 hq; have r9 := hSw.1.1; have u1 := hSw.2.c 1 rfl; have u9 := hSw.2.1; clear hSw; go_simp; try with_reducible rfl)
     simp only [za, zb, zc, zd]
     refine tks 14 (oi := ⟨some 39, _, _, _, _, some (5, true)⟩) ?_
     simp only [za, zb, zc, zd]
     refine rd 15 (fun K hK => ?_)
     go_simp
     have hpq := rpair_any (p.2.1 ++ q.2.1) v1
     rw [hpr] at hpq
     refine hpq.mono ?_
     rintro e v2 ⟨rfl, rfl⟩
     refine hK.out _ _ hHeld (fun hHeld => ?_)
     clear hK K hpq
     refine tks 16 (oi := ⟨some 41, _, _, _, _, none⟩) ?_
     simp only [za, zb, zc, zd]
     refine dn ?_
     have x0 := K1.out.first.c 0 rfl
     have x1 := K1.out.first.c 1 rfl
     have x2 := K1.out.first.c 2 rfl
     have xh := K1.out.first.1
     have hz := K1.out.at w.heap.size [vi ki 0, vS ⟨#[]⟩, vi ki 0] (by simp)
     have z0 := hz.c 0 rfl
     have z1 := hz.c 1 rfl
     have z2 := hz.c 2 rfl
     have zf0 := hz.f 0 rfl
     have zf1 := hz.f 1 rfl
     have zf2 := hz.f 2 rfl
     have zh := hz.1
     have FB := hz.setAll [vi ki 4, vS p.2.1, vi ki p.2.2] rfl
     have y0' := FB.c 0 rfl
     have y1' := FB.c 1 rfl
     have y2' := FB.c 2 rfl
     simp only [World.setCells, Nat.zero_add, Nat.reduceAdd] at y0' y1' y2'
     clear hz FB
     go_wp2
     refine bodyPost_ret (v := .agg #[vi ki 4, vS p.2.1, vi ki p.2.2]) (by simp [results, Tryd.results34, go_sem, y0', y1', y2']) rfl ⟨by rw [HRk.out], below_setCells (Nat.le_refl _) [vi ki 4, vS p.2.1, vi ki p.2.2] _ 0 K1.out.1⟩
    | true =>
     rw [hpr, if_pos rfl] at hsg
     rw [hsg] at HRk
     clear hsg
     refine wp_region_held_drew (S := (fun V => PV b 0 cap L V ∧ Bx V (w.heap.size + 1) [vi ki p.1, vS p.2.1, vi ki p.2.2])) (by kernel_rfl) (by first | exact ⟨HP.out.below K1.out.1, K1.out.at (w.heap.size + 1) [vi ki p.1, vS p.2.1, vi ki p.2.2] (by simp)⟩ | exact ⟨HP.out.below K1.out.drew.1, K1.out.drew.at (w.heap.size + 1) [vi ki p.1, vS p.2.1, vi ki p.2.2] (by simp)⟩) (fun hHeld => ?_)
     refine gen_anyR (fun V => BS w [(w.heap.size + 1 + 1, [vi ki 4, vS p.2.1, vi ki p.2.2]), (w.heap.size + 1, [vi ki p.1, vS p.2.1, vi ki p.2.2]), (w.heap.size, [vi ki 0, vS ⟨#[]⟩, vi ki 0])] V) (by first | exact K1.out.drew | exact K1.out) ?_
     clear hHeld K1
     intro W2 kk
     have K1 : Hid (BS w [(w.heap.size + 1 + 1, [vi ki 4, vS p.2.1, vi ki p.2.2]), (w.heap.size + 1, [vi ki p.1, vS p.2.1, vi ki p.2.2]), (w.heap.size, [vi ki 0, vS ⟨#[]⟩, vi ki 0])] W2) := kk
     clear kk
     have hHeld : (fun V => PV b 0 cap L V ∧ Bx V (w.heap.size + 1) [vi ki p.1, vS p.2.1, vi ki p.2.2]) W2 := (by first | exact ⟨HP.out.below K1.out.1, K1.out.at (w.heap.size + 1) [vi ki p.1, vS p.2.1, vi ki p.2.2] (by simp)⟩ | exact ⟨HP.out.below K1.out.drew.1, K1.out.drew.at (w.heap.size + 1) [vi ki p.1, vS p.2.1, vi ki p.2.2] (by simp)⟩)
     refine tks 0 (oi := ⟨some 25, _, _, _, _, none⟩) ?_
     simp only [za, zb, zc, zd]
     refine tks 1 (oi := ⟨some 26, _, _, _, _, none⟩) ?_
     simp only [za, zb, zc, zd]
     refine tks 2 (oi := ⟨some 27, _, _, _, _, none⟩) ?_
     simp only [za, zb, zc, zd]
     refine tks 3 (oi := ⟨some 28, _, _, _, _, none⟩) ?_
     simp only [za, zb, zc, zd]
     refine rd 4 (fun K hK => ?_)
     go_simp
     refine (HAa.out _ K1.out.1).mono ?_
     rintro e v1 ⟨rfl, rfl⟩
     refine hK.out _ _ hHeld (fun hHeld => ?_)
     clear hK K
     refine tks 5 (oi := ⟨some 30, _, _, _, _, none⟩) ?_
     simp only [za, zb, zc, zd]
     refine tks 6 (oi := ⟨some 31, _, _, _, _, some (5, true)⟩) ?_
     simp only [za, zb, zc, zd]
     refine tk (v := ?_) 7 (oi := ⟨some 32, _, _, _, _, some (5, true)⟩) ?_ ?_
     case refine_2 => (intro w9 hSw; obtain ⟨r0, r1, r2, r3⟩ := PV.cells hSw.1 hq; have r9 := hSw.1.1; have u1 := hSw.2.c 1 rfl; have u9 := hSw.2.1; clear hSw; go_simp; try with_reducible rfl)
     simp only [za, zb, zc, zd]
     refine tks 8 (oi := ⟨some 33, _, _, _, _, some (5, true)⟩) ?_
     simp only [za, zb, zc, zd]
     refine tks 9 (oi := ⟨some 34, _, _, _, _, some (5, true)⟩) ?_
     simp only [za, zb, zc, zd]
     refine tks 10 (oi := ⟨some 35, _, _, _, _, some (5, true)⟩) ?_
     simp only [za, zb, zc, zd]
     refine tks 11 (oi := ⟨some 36, _, _, _, _, some (5, true)⟩) ?_
     simp only [za, zb, zc, zd]
     refine tks 12 (oi := ⟨some 37, _, _, _, _, some (5, true)⟩) ?_
     simp only [za, zb, zc, zd]
     refine tk (v := ?_) 13 (oi := ⟨some 38, _, _, _, _, some (5, true)⟩) ?_ ?_
     case refine_2 => (intro w9 hSw; obtain ⟨r0, r1, r2, r3⟩ := PV.cells hSw.1 hq; have r9 := hSw.1.1; have u1 := hSw.2.c 1 rfl; have u9 := hSw.2.1; clear hSw; go_simp; try with_reducible rfl)
     simp only [za, zb, zc, zd]
     refine tks 14 (oi := ⟨some 39, _, _, _, _, some (5, true)⟩) ?_
     simp only [za, zb, zc, zd]
     refine rd 15 (fun K hK => ?_)
     go_simp
     have hpq := rpair_any (p.2.1 ++ q.2.1) v1
     rw [hpr] at hpq
     refine hpq.mono ?_
     rintro e v2 ⟨rfl, rfl⟩
     refine hK.out _ _ hHeld (fun hHeld => ?_)
     clear hK K hpq
     refine tks 16 (oi := ⟨some 41, _, _, _, _, none⟩) ?_
     simp only [za, zb, zc, zd]
     refine dn ?_
     clear hHeld
     go_upto_region 6 with fail
     refine wp_region_held_drew (S := (fun V => PV b 0 cap L V ∧ Bx V (w.heap.size + 1) [vi ki p.1, vS p.2.1, vi ki p.2.2])) (by kernel_rfl) (by first | exact ⟨HP.out.below K1.out.1, K1.out.at (w.heap.size + 1) [vi ki p.1, vS p.2.1, vi ki p.2.2] (by simp)⟩ | exact ⟨HP.out.below K1.out.drew.1, K1.out.drew.at (w.heap.size + 1) [vi ki p.1, vS p.2.1, vi ki p.2.2] (by simp)⟩) (fun hHeld => ?_)
     refine gen_anyR (fun V => BS w [(w.heap.size + 1 + 1, [vi ki 4, vS p.2.1, vi ki p.2.2]), (w.heap.size + 1, [vi ki p.1, vS p.2.1, vi ki p.2.2]), (w.heap.size, [vi ki 0, vS ⟨#[]⟩, vi ki 0])] V) (by first | exact K1.out.drew | exact K1.out) ?_
     clear hHeld K1
     intro W3 kk
     have K1 : Hid (BS w [(w.heap.size + 1 + 1, [vi ki 4, vS p.2.1, vi ki p.2.2]), (w.heap.size + 1, [vi ki p.1, vS p.2.1, vi ki p.2.2]), (w.heap.size, [vi ki 0, vS ⟨#[]⟩, vi ki 0])] W3) := kk
     clear kk
     have hHeld : (fun V => PV b 0 cap L V ∧ Bx V (w.heap.size + 1) [vi ki p.1, vS p.2.1, vi ki p.2.2]) W3 := (by first | exact ⟨HP.out.below K1.out.1, K1.out.at (w.heap.size + 1) [vi ki p.1, vS p.2.1, vi ki p.2.2] (by simp)⟩ | exact ⟨HP.out.below K1.out.drew.1, K1.out.drew.at (w.heap.size + 1) [vi ki p.1, vS p.2.1, vi ki p.2.2] (by simp)⟩)
     refine tks 0 (oi := ⟨some 42, _, _, _, _, none⟩) ?_
     simp only [za, zb, zc, zd]
     refine tk (v := ?_) 1 (oi := ⟨some 43, _, _, _, _, none⟩) ?_ ?_
     case refine_2 => (intro w9 hSw; obtain ⟨r0, r1, r2, r3⟩ := PV.cells hSw.1 hq; have r9 := hSw.1.1; have u1 := hSw.2.c 1 rfl; have u9 := hSw.2.1; clear hSw; go_simp; try with_reducible rfl)
     simp only [za, zb, zc, zd]
     refine tks 2 (oi := ⟨some 44, _, _, _, _, none⟩) ?_
     simp only [za, zb, zc, zd]
     refine tks 3 (oi := ⟨some 45, _, _, _, _, none⟩) ?_
     simp only [za, zb, zc, zd]
     refine tks 4 (oi := ⟨some 46, _, _, _, _, none⟩) ?_
     simp only [za, zb, zc, zd]
     refine tks 5 (oi := ⟨some 47, _, _, _, _, none⟩) ?_
     simp only [za, zb, zc, zd]
     refine tks 6 (oi := ⟨some 48, _, _, _, _, none⟩) ?_
     simp only [za, zb, zc, zd]
     refine tk (v := ?_) 7 (oi := ⟨some 49, _, _, _, _, none⟩) ?_ ?_
     case refine_2 => (intro w9 hSw; obtain ⟨r0, r1, r2, r3⟩ := PV.cells hSw.1 hq; have r9 := hSw.1.1; have u1 := hSw.2.c 1 rfl; have u9 := hSw.2.1; clear hSw; go_simp; try with_reducible rfl)
     simp only [za, zb, zc, zd]
     refine tks 8 (oi := ⟨some 50, _, _, _, _, none⟩) ?_
     simp only [za, zb, zc, zd]
     refine tks 9 (oi := ⟨some 51, _, _, _, _, none⟩) ?_
     simp only [za, zb, zc, zd]
     refine rd 10 (fun K hK => ?_)
     have x1 := K1.out.first.c 1 rfl
     have x1f := K1.out.first.f 1 rfl
     have xh := K1.out.first.1
     have KSa := BS.set1 K1.out 1 (vS (p.2.1 ++ q.2.1)) (by simp) (by simp; omega)
     have KS : Hid (BS w [(w.heap.size + 1 + 1, [vi ki 4, vS (p.2.1 ++ q.2.1), vi ki p.2.2]), (w.heap.size + 1, [vi ki p.1, vS p.2.1, vi ki p.2.2]), (w.heap.size, [vi ki 0, vS ⟨#[]⟩, vi ki 0])] (W3.setCell ⟨w.heap.size + 1 + 1, 1, none⟩ (vS (p.2.1 ++ q.2.1)))) := KSa
     clear KSa
     go_simp
     refine hK.out _ _ ⟨HP.out.below KS.out.1, KS.out.at (w.heap.size + 1) [vi ki p.1, vS p.2.1, vi ki p.2.2] (by simp)⟩ (fun hHeld => ?_)
     clear hK K x1 x1f xh hHeld
     refine gen_anyR (fun V => BS w [(w.heap.size + 1 + 1, [vi ki 4, vS (p.2.1 ++ q.2.1), vi ki p.2.2]), (w.heap.size + 1, [vi ki p.1, vS p.2.1, vi ki p.2.2]), (w.heap.size, [vi ki 0, vS ⟨#[]⟩, vi ki 0])] V) KS.out ?_
     clear KS K1
     intro v1 kk
     have K1 : Hid (BS w [(w.heap.size + 1 + 1, [vi ki 4, vS (p.2.1 ++ q.2.1), vi ki p.2.2]), (w.heap.size + 1, [vi ki p.1, vS p.2.1, vi ki p.2.2]), (w.heap.size, [vi ki 0, vS ⟨#[]⟩, vi ki 0])] v1) := kk
     clear kk
     have hHeld : (fun V => PV b 0 cap L V ∧ Bx V (w.heap.size + 1) [vi ki p.1, vS p.2.1, vi ki p.2.2]) v1 := ⟨HP.out.below K1.out.1, K1.out.at (w.heap.size + 1) [vi ki p.1, vS p.2.1, vi ki p.2.2] (by simp)⟩
     refine dn ?_
     have x0 := K1.out.first.c 0 rfl
     have x1 := K1.out.first.c 1 rfl
     have x2 := K1.out.first.c 2 rfl
     have xh := K1.out.first.1
     have hz := K1.out.at w.heap.size [vi ki 0, vS ⟨#[]⟩, vi ki 0] (by simp)
     have z0 := hz.c 0 rfl
     have z1 := hz.c 1 rfl
     have z2 := hz.c 2 rfl
     have zf0 := hz.f 0 rfl
     have zf1 := hz.f 1 rfl
     have zf2 := hz.f 2 rfl
     have zh := hz.1
     have FB := hz.setAll [vi ki 4, vS (p.2.1 ++ q.2.1), vi ki p.2.2] rfl
     have y0' := FB.c 0 rfl
     have y1' := FB.c 1 rfl
     have y2' := FB.c 2 rfl
     simp only [World.setCells, Nat.zero_add, Nat.reduceAdd] at y0' y1' y2'
     clear hz FB
     go_wp2
     refine bodyPost_ret (v := .agg #[vi ki 4, vS (p.2.1 ++ q.2.1), vi ki p.2.2]) (by simp [results, Tryd.results34, go_sem, y0', y1', y2']) rfl ⟨by rw [HRk.out], below_setCells (Nat.le_refl _) [vi ki 4, vS (p.2.1 ++ q.2.1), vi ki p.2.2] _ 0 K1.out.1⟩
end Go.Proofs.YtaoocecipacnhaaDoor
