import Derived.Test.YtcmefhnfdcngfaaDoorP25
import Derived.Test.YtcmefhnfdcngfaaDoorP28
/- kind.Find: what comes of an operation on kinds. -/
namespace Go.Proofs.YtcmefhnfdcngfaaDoor
open Go.RowKit
set_option linter.unusedVariables false

theorem tbC_at : ∀ (l : List (ByteArray × ByteArray)) (j : Nat) (x : ByteArray × ByteArray), l[j]? = some x → (tbC l)[j * 2]? = some (.string x.1) ∧ (tbC l)[j * 2 + 1]? = some (.string x.2)
  | [], j, x, h => by simp at h
  | y :: l, 0, x, h => by simp at h; subst h; exact ⟨rfl, rfl⟩
  | y :: l, j + 1, x, h => by
    have := tbC_at l j x (by simpa using h)
    rw [show (j + 1) * 2 = j * 2 + 1 + 1 by omega]
    simp only [tbC, List.getElem?_cons_succ]
    exact this
theorem fTab_at {op : ByteArray} {args : List Int} {j : Nat} {x : ByteArray × ByteArray} (hx : tbl[j]? = some x) : fTab op args (tbl.drop j) = if x.1 = op then (match fRow args (rowsF x.2) with | some k => some k | none => fTab op args (tbl.drop (j + 1))) else fTab op args (tbl.drop (j + 1)) := by
  have hj := (List.getElem?_eq_some_iff.1 hx).1
  rw [List.drop_eq_getElem_cons hj, (List.getElem?_eq_some_iff.1 hx).2, fTab]
  rfl
theorem fRow_at {args : List Int} {R : List (List Int)} {m : Nat} {r : List Int} (hr : R[m]? = some r) : fRow args (R.drop m) = if r.take (r.length - 1) = args then some (r.getD (r.length - 1) 0) else fRow args (R.drop (m + 1)) := by
  have hj := (List.getElem?_eq_some_iff.1 hr).1
  rw [List.drop_eq_getElem_cons hj, (List.getElem?_eq_some_iff.1 hr).2, fRow]
def finV (op : ByteArray) : Option Int → Value
  | some k => .tuple #[.int .i64 k, .bool (decide (op = srs)), .bool true]
  | none => .tuple #[.int .i64 0, .bool false, .bool false]
theorem tbl_at {j : Nat} {x : ByteArray × ByteArray} (hx : tbl[j]? = some x) : ascB x.2 = true ∧ x.2.size ≤ 1000 ∧ ∀ r ∈ rowsF x.2, 1 ≤ r.length := by
  have := List.all_eq_true.1 tbl_ok x (List.mem_of_getElem? hx)
  unfold okT at this
  simp only [Bool.and_eq_true, decide_eq_true_eq, List.all_eq_true] at this
  exact ⟨this.1.1, this.1.2, this.2⟩
theorem rowsF_len (t : ByteArray) : (rowsF t).length ≤ t.size := (rru_len t t.size).2

/-- where the table's rows are looked through. -/
structure FL (w : World) (va : Value) (args : List Int) (R : List (List Int)) (g cap : Nat) (xs : List Value) (V : World) : Prop where
  low : Below w.heap.size w V
  tab : Bx V w.heap.size (tbC tbl)
  own : 0 < R.length → V.ownsRow w.heap.size 22 1 (.slice (some ⟨g, 0, none⟩) R.length cap) R.length xs
  all : SS (fun _ => True) V R xs
  arg : IR V va args
theorem FL.below {w : World} {va : Value} {args : List Int} {R : List (List Int)} {g cap : Nat} {xs : List Value} {V W : World} (h : FL w va args R g cap xs V) (hb : Below V.heap.size V W) : FL w va args R g cap xs W :=
  ⟨h.low.trans (hb.mono h.low.size), h.tab.below hb, fun q => ownsRow_keep (h.own q) (fun c _ hl => hb.block c hl), SS.keep hb.size (fun c hc hl => ⟨hc, hb.block c hl⟩) _ _ h.all, h.arg.below hb⟩

set_option maxRecDepth 100000 in
set_option maxHeartbeats 4000000 in
theorem find_any (op : ByteArray) (args : List Int) (va : Value) (w : World) (hk : Kn w) (ha : IR w va args) :
    Calls Tryd.prog 6 #[.string op, va] w fun e w' => e = .returned (finV op (finF op args)) ∧ Below w.heap.size w w' := by
  have HK : Hid (Kn w) := hk
  have HA : Hid (IR w va args) := ha
  obtain ⟨q, cq, hva⟩ : ∃ q cq, va = .slice q args.length cq := by obtain ⟨p, c, e, _⟩ := ha; exact ⟨p, c, e⟩
  clear hk ha
  subst hva
  go_enter Tryd.func6, Tryd.ntmps6
  go_wp2_with fail
  refine (table_any w).mono ?_
  rintro e W ⟨rfl, hW⟩
  have BT : Hid (BS w [(w.heap.size, tbC tbl)] W) := by rw [hW]; exact (BS.start w).new (tbC tbl) 43 rfl
  clear hW
  go_wp2_with fail
  go_loopw [14] (fun i W => ∃ (j : Nat), i = .int .i64 (j : Int) ∧ j ≤ 32 ∧ Hid (BS w [(w.heap.size, tbC tbl)] W) ∧ Hid (finF op args = fTab op args (tbl.drop j))) (fun i _ => 32 - (intOf i).toNat)
  case atStart => exact ⟨0, rfl, by omega, BT, rfl⟩
  case round =>
    obtain ⟨j, rfl, hj, KB, HE⟩ := hrel
    clear BT
    have hj0 : (0 : Int) ≤ (j : Int) := by omega
    by_cases hj32 : j < 32
    · have hjI : (j : Int) < 32 := by omega
      have hjw : IntKind.i64.wrap ((j : Int) + 1) = (j : Int) + 1 := by rw [IntKind.wrap_i64]; omega
      obtain ⟨x, hx⟩ : ∃ x, tbl[j]? = some x := ⟨_, List.getElem?_eq_getElem (show j < tbl.length by rw [tbl_len]; exact hj32)⟩
      obtain ⟨q1, q2⟩ := tbC_at tbl j x hx
      have v0 := KB.out.first.c (j * 2) q1
      have v1 := KB.out.first.c (j * 2 + 1) q2
      have hlt := KB.out.first.1
      have hat := fTab_at (op := op) (args := args) hx
      obtain ⟨hasc, hsz, hrow⟩ := tbl_at hx
      obtain ⟨O, T⟩ := x
      simp only at v0 v1 hat hasc hsz hrow
      clear q1 q2 hx
      have KX : Hid (BS w [(w.heap.size, tbC tbl)] (wr.alloc (.cells #[.string O, .string T] 43))) := KB.out.alloc _
      by_cases hO : O = op
      · subst hO
        rw [if_pos rfl] at hat
        have HR := rowsF_len T
        obtain ⟨R, hR⟩ : ∃ R, rowsF T = R := ⟨_, rfl⟩
        rw [hR] at hat hrow HR
        have HAt : Hid _ := hat
        have HRow : Hid (∀ r ∈ R, 1 ≤ r.length) := hrow
        clear hat hrow
        go_wp2_with fail
        refine (rows_any T hsz hasc _ (HK.out.below KX.out.1)).mono ?_
        rintro e V ⟨hb, sq, sn, sc, xs, rfl, hown, hss⟩
        rw [hR] at hown hss
        have hxl := SS.len _ _ hss
        obtain ⟨g, hsn, hsq⟩ : ∃ g, sn = R.length ∧ (0 < R.length → sq = some ⟨g, 0, none⟩ ∧ R.length ≤ sc ∧ sc ≤ maxLen ∧ g < V.heap.size) := by
          rcases hown.2 with ⟨e, h0⟩ | ⟨g, cap, cur, e, h1, h2, h3, h4, h5⟩
          · cases e; exact ⟨0, h0.symm, fun h => by omega⟩
          · cases e; exact ⟨g, rfl, fun h => ⟨rfl, h3, h4, (Array.getElem?_eq_some_iff.1 h2).1⟩⟩
        subst hsn
        have HV : Hid (FL w (.slice q args.length cq) args R g sc xs V) := ⟨KX.out.1.trans (hb.mono KX.out.1.size), (KX.out.below hb).first, fun h0 => by rw [(hsq h0).1] at hown; exact ownsRow_lower hown KX.out.1.size, SS.keep (Nat.le_refl _) (fun _ _ _ => ⟨trivial, rfl⟩) _ _ hss, HA.out.below (KX.out.1.trans (hb.mono KX.out.1.size))⟩
        clear hown hss hb KX v0 v1 KB
        have hRI : (R.length : Int) ≤ 1000 := by omega
        go_wp2_with fail
        go_loopw [26] (fun i W => ∃ (m : Nat), i = .int .i64 (m : Int) ∧ m ≤ R.length ∧ Hid (FL w (.slice q args.length cq) args R g sc xs W) ∧ Hid (fRow args R = fRow args (R.drop m))) (fun i _ => R.length - (intOf i).toNat)
        case atStart => exact ⟨0, rfl, Nat.zero_le _, HV, rfl⟩
        case round =>
          obtain ⟨m, rfl, hm, KV, HM⟩ := hrel
          clear HV
          have hm0 : (0 : Int) ≤ (m : Int) := by omega
          by_cases hmR : m < R.length
          · have hmI : (m : Int) < (R.length : Int) := by omega
            have hmw : IntKind.i64.wrap ((m : Int) + 1) = (m : Int) + 1 := by rw [IntKind.wrap_i64]; omega
            obtain ⟨hsq1, hsc1, hsc2, hgV⟩ := hsq (by omega)
            subst hsq1
            have hown := KV.out.own (by omega)
            obtain ⟨r, hr⟩ : ∃ r, R[m]? = some r := ⟨_, List.getElem?_eq_getElem hmR⟩
            obtain ⟨v, hv, hix⟩ := SS.get _ _ m r KV.out.all hr
            have y := hown.cellAt m (by rw [hown.1] at hxl; omega)
            rw [hv] at y
            have hgw := World.block_lt_of_cell? _ _ y
            have hr1 := HRow.out r (List.mem_of_getElem? hr)
            have hfr := fRow_at (args := args) hr
            obtain ⟨p, rc, rfl, hrc, hrm, hcells⟩ := hix
            obtain ⟨L, hL⟩ : ∃ L, r.length = L + 1 := ⟨r.length - 1, by omega⟩
            obtain ⟨k, hk⟩ : ∃ k, r[L]? = some k := ⟨_, List.getElem?_eq_getElem (by omega)⟩
            obtain ⟨b, rfl, -, hbw, z⟩ := hcells L k hk
            have hgd : r.getD (r.length - 1) 0 = k := by rw [hL, List.getD_eq_getElem?_getD, show L + 1 - 1 = L by omega, hk]; rfl
            have HI : Hid (IR wr (.slice (some ⟨b, 0, none⟩) L rc) (r.take L)) := by
              have hl2 : (r.take L).length = L := by rw [List.length_take]; omega
              refine ⟨some ⟨b, 0, none⟩, rc, by rw [hl2], by omega, hrm, fun i u hu => ?_⟩
              have hi := (List.getElem?_eq_some_iff.1 hu).1
              rw [List.getElem?_take] at hu
              split at hu
              · obtain ⟨b', e1, -, e3, e4⟩ := hcells i u hu
                cases e1
                exact ⟨b, 0, rfl, e3, by rw [Nat.zero_add]; exact e4⟩
              · cases hu
            rw [hgd, show r.length - 1 = L by omega] at hfr
            have hLw : IntKind.i64.wrap (((L + 1 : Nat) : Int) - 1) = (L : Int) := by rw [IntKind.wrap_i64]; unfold maxLen at hrm; omega
            have hL0 : (0 : Int) ≤ (L : Int) := by omega
            rw [hL] at y hrc
            unfold maxLen at hrm hsc2
            have hrcI : (L : Int) ≤ (rc : Int) := by omega
            have hrcI2 : (rc : Int) ≤ 9223372036854775807 := by omega
            clear hcells hown hr hv hk hgd hL hr1
            go_wp2_with fail
            refine (equal_any _ args _ _ wr HI.out KV.out.arg).mono ?_
            by_cases hEq : r.take L = args
            · rw [if_pos hEq] at hfr
              rw [decide_eq_true hEq]
              rintro e V2 ⟨rfl, hb⟩
              have z2 := (hb.cell (p := ⟨b, L, none⟩) hbw).trans z
              have hbw2 : b < V2.heap.size := by have := hb.size; omega
              have HF : Hid (finF O args = some k) := by have := HE.out; rw [HAt.out, HM.out, hfr] at this; exact this
              have HB : Hid (Below w.heap.size w V2) := (KV.out.below hb).low
              have hlit := lit_eq O [103, 101, 110, 101, 114, 97, 116, 101, 95, 115, 101, 114, 105, 101, 115]
              clear hb HAt HM HE hfr y z HI KV
              go_wp2
              exact bodyPost_ret (v := .tuple #[.int .i64 k, .bool (decide (O = srs)), .bool true]) (by simp [results, Tryd.results6, go_sem, srs]; congr) rfl ⟨by rw [HF.out]; rfl, HB.out⟩
            · rw [if_neg hEq] at hfr
              rw [decide_eq_false hEq]
              rintro e V2 ⟨rfl, hb⟩
              have HF : Hid (FL w (.slice q args.length cq) args R g sc xs V2) := KV.out.below hb
              have HM2 : Hid (fRow args R = fRow args (R.drop (m + 1))) := HM.out.trans hfr
              clear hb HM hfr y z HI KV HE HAt
              go_wp2
              exact ⟨⟨m + 1, by simp, by omega, HF, HM2⟩, by simp [intOf]; omega⟩
          · obtain rfl : m = R.length := by omega
            have hmI : ¬ (R.length : Int) < (R.length : Int) := by omega
            have HF : Hid (finF O args = fTab O args (tbl.drop (j + 1))) := by
              have h1 := HE.out
              have h2 := HM.out
              rw [List.drop_length] at h2
              rw [HAt.out, h2] at h1
              exact h1
            have HB : Hid (BS w [(w.heap.size, tbC tbl)] wr) := ⟨KV.out.low, fun y hy => by simp at hy; subst hy; exact ⟨Nat.le_refl _, KV.out.tab⟩⟩
            clear HM HE HAt KV
            go_wp2
            exact ⟨⟨j + 1, by simp, by omega, HB, HF⟩, by simp [intOf]; omega⟩
      · rw [if_neg hO] at hat
        have hg : (O.toList == op.toList) = false := by rw [toList_eq]; exact decide_eq_false hO
        have HF : Hid (finF op args = fTab op args (tbl.drop (j + 1))) := HE.out.trans hat
        clear HE hat KB
        go_wp2
        exact ⟨⟨j + 1, by simp, by omega, KX, HF⟩, by simp [intOf]; omega⟩
    · obtain rfl : j = 32 := by omega
      have HF : Hid (finF op args = none) := by
        have h1 := HE.out
        rw [List.drop_of_length_le (by rw [tbl_len]; exact Nat.le_refl _)] at h1
        exact h1
      clear HE
      go_wp2
      exact bodyPost_ret (v := .tuple #[.int .i64 0, .bool false, .bool false]) (by simp [results, Tryd.results6, go_sem]) rfl ⟨by rw [HF.out]; rfl, KB.out.1⟩

end Go.Proofs.YtcmefhnfdcngfaaDoor
