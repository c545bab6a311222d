import Derived.Test.YtcmefhnfdcngfaaDoorP12
import Derived.Test.YtcmefhnfdcngfaaDoorP29
/- The reference's table looked through: mathematics; compares, same, Name, Kind. -/
namespace Go.Proofs.YtcmefhnfdcngfaaDoor
open Go.RowKit
set_option linter.unusedVariables false

/-- which operations compare; which of them also bools. -/
def isC (op : ByteArray) : Bool := decide (op = ⟨#[61]⟩) || decide (op = ⟨#[60, 62]⟩) || decide (op = ⟨#[60]⟩) || decide (op = ⟨#[60, 61]⟩) || decide (op = ⟨#[62]⟩) || decide (op = ⟨#[62, 61]⟩)
def isB (op : ByteArray) : Bool := decide (op = ⟨#[61]⟩) || decide (op = ⟨#[60, 62]⟩)
def nm2 (a b : Int) : Bool := (decide (a = 2) || decide (a = 3)) && (decide (b = 2) || decide (b = 3))
def cm2 (bl : Bool) (a b : Int) : Bool := nm2 a b || (decide (a = b) && decide (4 ≤ a) && decide (a ≤ 8)) || (bl && decide (a = 1) && decide (b = 1))
def cmF (op : ByteArray) (args : List Int) : Bool := isC op && (match args with | [a, b] => cm2 (isB op) a b | _ => false)
def rFind (op : ByteArray) (args : List Int) : List (ByteArray × List Int × Int) → Option Int
  | [] => none
  | x :: l => if x.1 = op ∧ x.2.1 = args then some x.2.2 else rFind op args l
def refF (op : ByteArray) (args : List Int) : Option Int := if cmF op args then some 1 else rFind op args rtb
theorem rFind_mem {op : ByteArray} {args : List Int} {v : Int} : ∀ (l : List (ByteArray × List Int × Int)), rFind op args l = some v → (op, args, v) ∈ l
  | [], h => by cases h
  | x :: l, h => by
    rw [rFind] at h
    split at h
    · rename_i q
      obtain ⟨q1, q2⟩ := q
      cases h
      rw [← q1, ← q2]
      exact List.mem_cons_self
    · exact List.mem_cons_of_mem _ (rFind_mem l h)
/-- the program's table, row for row. -/
def ptb : List (ByteArray × List Int × Int) := tbl.flatMap (fun x => (rowsF x.2).map (fun r => (x.1, r.take (r.length - 1), r.getD (r.length - 1) 0)))
theorem fRow_mem {args : List Int} {v : Int} : ∀ (R : List (List Int)), fRow args R = some v → ∃ r ∈ R, r.take (r.length - 1) = args ∧ r.getD (r.length - 1) 0 = v
  | [], h => by cases h
  | r :: l, h => by
    rw [fRow] at h
    split at h
    · rename_i q
      cases h
      exact ⟨r, List.mem_cons_self, q, rfl⟩
    · obtain ⟨s, h1, h2⟩ := fRow_mem l h
      exact ⟨s, List.mem_cons_of_mem _ h1, h2⟩
theorem fTab_mem {op : ByteArray} {args : List Int} {v : Int} : ∀ (l : List (ByteArray × ByteArray)), fTab op args l = some v → ∃ x ∈ l, x.1 = op ∧ fRow args (rowsF x.2) = some v
  | [], h => by cases h
  | x :: l, h => by
    rw [fTab] at h
    split at h
    · rename_i q
      cases hr : fRow args (rowsF x.2) with
      | none =>
        rw [hr] at h
        obtain ⟨s, h1, h2⟩ := fTab_mem l h
        exact ⟨s, List.mem_cons_of_mem _ h1, h2⟩
      | some k =>
        rw [hr] at h
        cases h
        exact ⟨x, List.mem_cons_self, q, hr⟩
    · obtain ⟨s, h1, h2⟩ := fTab_mem l h
      exact ⟨s, List.mem_cons_of_mem _ h1, h2⟩
theorem fin_mem {op : ByteArray} {args : List Int} {v : Int} (h : finF op args = some v) : (op, args, v) ∈ ptb := by
  obtain ⟨x, h1, h2, h3⟩ := fTab_mem tbl h
  obtain ⟨r, h4, h5, h6⟩ := fRow_mem _ h3
  unfold ptb
  refine List.mem_flatMap.2 ⟨x, h1, List.mem_map.2 ⟨r, h4, ?_⟩⟩
  rw [h2, h5, h6]
theorem ptb_ok : ptb.all (fun x => cmF x.1 x.2.1 || (rFind x.1 x.2.1 rtb).isSome) = true := by decide +kernel
def cops : List ByteArray := [⟨#[61]⟩, ⟨#[60, 62]⟩, ⟨#[60]⟩, ⟨#[60, 61]⟩, ⟨#[62]⟩, ⟨#[62, 61]⟩]
theorem isC_mem {op : ByteArray} (h : isC op = true) : op ∈ cops := by
  unfold isC at h
  simp only [Bool.or_eq_true, decide_eq_true_eq] at h
  unfold cops
  rcases h with ((((h | h) | h) | h) | h) | h <;> subst h <;> simp
theorem cm_ok : cops.all (fun op => ([2, 3] : List Int).all (fun a => ([2, 3] : List Int).all (fun b => decide (finF op [a, b] = some 1))) && ([4, 5, 6, 7, 8] : List Int).all (fun a => decide (finF op [a, a] = some 1)) && (!isB op || decide (finF op [1, 1] = some 1))) = true := by decide +kernel
theorem cm_fin {op : ByteArray} {args : List Int} (h : cmF op args = true) : finF op args = some 1 := by
  unfold cmF at h
  rw [Bool.and_eq_true] at h
  obtain ⟨h1, h2⟩ := h
  have q := List.all_eq_true.1 cm_ok op (isC_mem h1)
  simp only [Bool.and_eq_true, Bool.or_eq_true, Bool.not_eq_true', decide_eq_true_eq, List.all_eq_true] at q
  obtain ⟨⟨q1, q2⟩, q3⟩ := q
  match args, h2 with
  | [a, b], h2 =>
    simp only [cm2, nm2, Bool.and_eq_true, Bool.or_eq_true, decide_eq_true_eq] at h2
    rcases h2 with (⟨ha, hb⟩ | ⟨⟨rfl, ha⟩, hb⟩) | ⟨⟨ha, rfl⟩, rfl⟩
    · exact q1 a (by rcases ha with rfl | rfl <;> simp) b (by rcases hb with rfl | rfl <;> simp)
    · have : a = 4 ∨ a = 5 ∨ a = 6 ∨ a = 7 ∨ a = 8 := by omega
      exact q2 a (by rcases this with rfl | rfl | rfl | rfl | rfl <;> simp)
    · rcases q3 with q3 | q3
      · rw [q3] at ha; cases ha
      · exact q3
/-- both tables say the same. -/
theorem fin_ref (op : ByteArray) (args : List Int) : finF op args = refF op args := by
  unfold refF
  by_cases hc : cmF op args = true
  · rw [if_pos hc, cm_fin hc]
  rw [if_neg hc]
  cases hr : rFind op args rtb with
  | some v =>
    have := List.all_eq_true.1 rtb_find _ (rFind_mem _ hr)
    exact of_decide_eq_true this
  | none =>
    cases hf : finF op args with
    | none => rfl
    | some v =>
      have := List.all_eq_true.1 ptb_ok _ (fin_mem hf)
      simp only [Bool.or_eq_true] at this
      rcases this with h | h
      · exact absurd h hc
      · rw [hr] at h; cases h
theorem srs_not {op : ByteArray} (h : isC op = true) : decide (op = srs) = false := by
  have := isC_mem h
  unfold cops at this
  simp only [List.mem_cons, List.not_mem_nil, or_false] at this
  rcases this with h | h | h | h | h | h <;> subst h <;> decide
theorem rFind_at {op : ByteArray} {args : List Int} {j : Nat} {x : ByteArray × List Int × Int} (hx : rtb[j]? = some x) : rFind op args (rtb.drop j) = if x.1 = op ∧ x.2.1 = args then some x.2.2 else rFind op args (rtb.drop (j + 1)) := by
  have hj := (List.getElem?_eq_some_iff.1 hx).1
  rw [List.drop_eq_getElem_cons hj, (List.getElem?_eq_some_iff.1 hx).2, rFind]

set_option maxRecDepth 100000 in
set_option maxHeartbeats 4000000 in
theorem rcompares_any (op : ByteArray) (w : World) :
    Calls Tryd.prog 20 #[.string op] w fun e w' => e = .returned (.tuple #[.bool (isC op), .bool (isB op)]) ∧ w' = w := by
  by_cases hc : isC op = true
  · have := isC_mem hc
    unfold cops at this
    simp only [List.mem_cons, List.not_mem_nil, or_false] at this
    clear hc
    rcases this with h | h | h | h | h | h <;> subst h <;>
      (go_enter Tryd.func20, Tryd.ntmps20
       go_wp2
       exact bodyPost_ret (by simp [results, Tryd.results20, go_sem]; rfl) rfl ⟨by congr, rfl⟩)
  · have hb : isB op = false := by
      have hc2 : isC op = false := by simpa using hc
      unfold isC at hc2
      unfold isB
      simp only [Bool.or_eq_false_iff] at hc2 ⊢
      exact hc2.1.1.1.1
    have hc2 : isC op = false := by simpa using hc
    rw [hc2, hb]
    unfold isC at hc2
    simp only [Bool.or_eq_false_iff, decide_eq_false_iff_not] at hc2
    obtain ⟨⟨⟨⟨⟨c0, c1⟩, c2⟩, c3⟩, c4⟩, c5⟩ := hc2
    have g0 : (op.toList == [61]) = false := (lit_eq op [61]).trans (decide_eq_false c0)
    have g1 : (op.toList == [60, 62]) = false := (lit_eq op [60, 62]).trans (decide_eq_false c1)
    have g2 : (op.toList == [60]) = false := (lit_eq op [60]).trans (decide_eq_false c2)
    have g3 : (op.toList == [60, 61]) = false := (lit_eq op [60, 61]).trans (decide_eq_false c3)
    have g4 : (op.toList == [62]) = false := (lit_eq op [62]).trans (decide_eq_false c4)
    have g5 : (op.toList == [62, 61]) = false := (lit_eq op [62, 61]).trans (decide_eq_false c5)
    clear c0 c1 c2 c3 c4 c5 hb hc
    go_enter Tryd.func20, Tryd.ntmps20
    go_wp2
    exact bodyPost_ret (v := .tuple #[.bool false, .bool false]) (by simp [results, Tryd.results20, go_sem]) rfl ⟨rfl, rfl⟩

end Go.Proofs.YtcmefhnfdcngfaaDoor
/- The reference's same, Name, Kind. -/
namespace Go.Proofs.YtcmefhnfdcngfaaDoor
open Go.RowKit
set_option linter.unusedVariables false

set_option maxRecDepth 100000 in
set_option maxHeartbeats 4000000 in
theorem rsame_any (l m : List Int) (v u : Value) (w : World) (hv : IR w v l) (hu : IR w u m) :
    Calls Tryd.prog 21 #[v, u] w fun e w' => e = .returned (.bool (decide (l = m))) ∧ Below w.heap.size w w' := by
  obtain ⟨p, cap, rfl, h1, h2, h3⟩ := hv
  obtain ⟨q, cbp, rfl, k1, k2, k3⟩ := hu
  unfold maxLen at h2 k2
  have HL : Hid _ := h3
  have HM : Hid _ := k3
  clear h3 k3
  have hlI : (l.length : Int) ≤ 9223372036854775807 := by omega
  have hmI : (m.length : Int) ≤ 9223372036854775807 := by omega
  by_cases hne : l.length = m.length
  · go_enter Tryd.func21, Tryd.ntmps21
    have hneI : (l.length : Int) = (m.length : Int) := by omega
    go_wp2_with fail
    go_loopw [5] (fun i W => ∃ (j : Nat), i = .int .i64 (j : Int) ∧ j ≤ l.length ∧ Hid (Below w.heap.size w W) ∧ Hid (l.take j = m.take j)) (fun i _ => l.length - (intOf i).toNat)
    case atStart => exact ⟨0, rfl, Nat.zero_le _, Below.refl _ _, rfl⟩
    case round =>
      obtain ⟨j, rfl, hj, KB, HE⟩ := hrel
      have hj0 : (0 : Int) ≤ (j : Int) := by omega
      by_cases hjl : j < l.length
      · have hjI : (j : Int) < (l.length : Int) := by omega
        have hjM : (j : Int) < (m.length : Int) := by omega
        have hjw : IntKind.i64.wrap ((j : Int) + 1) = (j : Int) + 1 := by rw [IntKind.wrap_i64]; omega
        obtain ⟨b, o, rfl, hb, y⟩ := HL.out j _ (List.getElem?_eq_getElem hjl)
        obtain ⟨c, r, rfl, hc, z⟩ := HM.out j _ (List.getElem?_eq_getElem (show j < m.length by omega))
        have v0 := (KB.out.cell (p := ⟨b, o + j, none⟩) hb).trans y
        have v1 := (KB.out.cell (p := ⟨c, r + j, none⟩) hc).trans z
        have hbw : b < wr.heap.size := by have := KB.out.size; omega
        have hcw : c < wr.heap.size := by have := KB.out.size; omega
        obtain ⟨X, hX⟩ : ∃ X, l[j] = X := ⟨_, rfl⟩
        obtain ⟨Y, hY⟩ : ∃ Y, m[j]'(by omega) = Y := ⟨_, rfl⟩
        rw [hX] at v0
        rw [hY] at v1
        clear y z
        have ht : l.take (j + 1) = l.take j ++ [X] := by rw [List.take_add_one, List.getElem?_eq_getElem hjl, hX]; rfl
        have hs : m.take (j + 1) = m.take j ++ [Y] := by rw [List.take_add_one, List.getElem?_eq_getElem (by omega), hY]; rfl
        by_cases hXY : X = Y
        · have HE2 : Hid (l.take (j + 1) = m.take (j + 1)) := by show _ = _; rw [ht, hs, HE.out, hXY]
          subst hXY
          clear HE hX hY ht hs HL HM
          go_wp2_with fail
          go_quiet (fail)
          go_wp2
          exact ⟨⟨j + 1, by simp, by omega, bl_drewN KB.out _, HE2⟩, by simp [intOf]; omega⟩
        · have HE2 : Hid (l ≠ m) := fun e => hXY (by subst e; rw [← hX, ← hY])
          have hg : (X != Y) = true := by simpa using hXY
          clear HE hX hY ht hs HL HM
          go_wp2_with fail
          go_quiet (fail)
          go_wp2
          go_ret
          exact ⟨by rw [decide_eq_false HE2.out]; rfl, bl_drewN KB.out _⟩
      · have hjI : ¬ (j : Int) < (l.length : Int) := by omega
        obtain rfl : j = l.length := by omega
        have HE2 : Hid (l = m) := by have := HE.out; rw [List.take_length, hne, List.take_length] at this; exact this
        clear HE HL HM
        go_wp2
        go_ret
        exact ⟨by rw [decide_eq_true HE2.out]; rfl, KB.out⟩
  · have hneI : ¬ (l.length : Int) = (m.length : Int) := by omega
    have HE2 : Hid (l ≠ m) := fun e => hne (by rw [e])
    have hg : ((l.length : Int) != (m.length : Int)) = true := by simpa using hneI
    clear hne HL HM
    go_enter Tryd.func21, Tryd.ntmps21
    go_wp2
    go_ret
    exact ⟨by rw [decide_eq_false HE2.out]; rfl, Below.refl _ _⟩

theorem rname_list (w : World) : Calls Tryd.prog 22 #[] w fun e w' => e = .returned (.slice (some ⟨w.heap.size, 0, none⟩) 9 9) ∧ w' = w.alloc (.cells (knm.map Value.string).toArray 9) := by
  go_enter Tryd.func22, Tryd.ntmps22
  go_wp2
  go_ret
  exact ⟨rfl, rfl⟩

def knN2 (k : Int) : ByteArray := if 1 ≤ k ∧ k ≤ 8 then knm.getD k.toNat ⟨#[]⟩ else ⟨#[]⟩
theorem knN2_eq (k : Int) : knN2 k = knN k := by
  unfold knN2 knN
  by_cases h : 1 ≤ k ∧ k ≤ 8
  · rw [if_pos h, if_pos (by omega)]
  · rw [if_neg h]
    by_cases h0 : k = 0
    · subst h0; rfl
    · rw [if_neg (by omega)]

set_option maxRecDepth 100000 in
set_option maxHeartbeats 4000000 in
theorem rname_any (k : Int) (w : World) :
    Calls Tryd.prog 9 #[.int .i64 k] w fun e w' => e = .returned (.string (knN k)) ∧ Below w.heap.size w w' := by
  rw [← knN2_eq]
  by_cases h0 : k < 1
  · have e : knN2 k = ⟨#[]⟩ := if_neg (by omega)
    rw [e]; clear e
    go_enter Tryd.func9, Tryd.ntmps9
    go_wp2
    go_ret
    exact ⟨rfl, Below.refl _ _⟩
  by_cases h9 : 8 < k
  · have e : knN2 k = ⟨#[]⟩ := if_neg (by omega)
    rw [e]; clear e
    go_enter Tryd.func9, Tryd.ntmps9
    go_wp2
    go_ret
    exact ⟨rfl, Below.refl _ _⟩
  · obtain ⟨j, rfl⟩ : ∃ j : Nat, k = (j : Int) := ⟨k.toNat, by omega⟩
    have hj : j < 9 := by omega
    have e : knN2 (j : Int) = knm.getD j ⟨#[]⟩ := by unfold knN2; rw [if_pos (by omega)]; simp
    obtain ⟨N, hN⟩ : ∃ N, knm[j]? = some N := ⟨_, List.getElem?_eq_getElem (show j < knm.length from hj)⟩
    have e2 : knN2 (j : Int) = N := by rw [e, List.getD_eq_getElem?_getD, hN]; rfl
    rw [e2]
    have HB : Hid (Below w.heap.size w (w.alloc (.cells (knm.map Value.string).toArray 9))) := (Below.refl _ w).alloc (Nat.le_refl _) _
    have c := (Bx.new w (knm.map Value.string) 9).c j (show (knm.map Value.string)[j]? = some (.string N) by rw [List.getElem?_map, hN]; rfl)
    have hlt := (Bx.new w (knm.map Value.string) 9).1
    have HN := rname_list w
    have HNN : Hid _ := HN
    clear e e2 hN HN
    go_enter Tryd.func9, Tryd.ntmps9
    go_wp2_with fail
    refine Calls.mono HNN.out ?_
    rintro e W ⟨rfl, hW⟩
    rw [← hW] at c hlt HB
    clear hW
    go_wp2
    go_ret
    exact ⟨rfl, HB.out⟩

theorem kdF_from (t : ByteArray) (j : Nat) (hj : j ≤ 9) : kdL t (knm.drop 1) 1 = kdF t := by
  unfold kdF knm
  rw [kdL]
  by_cases h : (⟨#[]⟩ : ByteArray) = t
  · rw [if_pos h]; subst h; decide
  · rw [if_neg h]; rfl

set_option maxRecDepth 100000 in
set_option maxHeartbeats 4000000 in
theorem rkind_any (t : ByteArray) (w : World) :
    Calls Tryd.prog 11 #[.string t] w fun e w' => e = .returned (.int .i64 (kdF t)) ∧ Below w.heap.size w w' := by
  go_enter Tryd.func11, Tryd.ntmps11
  go_wp2_with fail
  go_loopw [3] (fun i W => ∃ (j : Nat), i = .int .i64 (j : Int) ∧ 1 ≤ j ∧ j ≤ 9 ∧ Hid (Below w.heap.size w W) ∧ Hid (kdF t = kdL t (knm.drop j) (j : Int))) (fun i _ => 9 - (intOf i).toNat)
  case atStart => exact ⟨1, rfl, by omega, by omega, Below.refl _ _, (kdF_from t 1 (by omega)).symm⟩
  case round =>
    obtain ⟨j, rfl, hj1, hj, KB, HK⟩ := hrel
    by_cases hj9 : j < 9
    · have hjI : (j : Int) ≤ 8 := by omega
      have hj0 : (0 : Int) ≤ (j : Int) := by omega
      have hjw : IntKind.i64.wrap ((j : Int) + 1) = (j : Int) + 1 := by rw [IntKind.wrap_i64]; omega
      obtain ⟨N, hN⟩ : ∃ N, knm[j]? = some N := ⟨_, List.getElem?_eq_getElem (show j < knm.length from hj9)⟩
      have hk := kd_at (t := t) hN
      have e2 : knN (j : Int) = N := by unfold knN; rw [if_pos (by omega)]; simp [List.getD_eq_getElem?_getD, hN]
      have HNm : Hid (∀ V : World, Calls Tryd.prog 9 #[.int .i64 (j : Int)] V fun e w' => e = .returned (.string N) ∧ Below V.heap.size V w') := fun V => by have := rname_any (j : Int) V; rw [e2] at this; exact this
      clear e2 hN
      go_wp2_with fail
      refine Calls.mono (HNm.out _) ?_
      rintro e V ⟨rfl, hb⟩
      have KV : Hid (Below w.heap.size w V) := KB.out.trans (hb.mono KB.out.size)
      clear hb HNm
      by_cases hNt : N = t
      · subst hNt
        rw [if_pos rfl] at hk
        have HE : Hid (kdF N = (j : Int)) := HK.out.trans hk
        clear hk HK
        go_wp2
        go_ret
        exact ⟨by rw [HE.out]; rfl, KV.out⟩
      · rw [if_neg hNt] at hk
        have HE : Hid (kdF t = kdL t (knm.drop (j + 1)) ((j + 1 : Nat) : Int)) := HK.out.trans hk
        have hg : (N.toList == t.toList) = false := by rw [toList_eq]; exact decide_eq_false hNt
        clear hk HK
        go_wp2
        exact ⟨⟨j + 1, by simp, by omega, by omega, KV, HE⟩, by simp [intOf]; omega⟩
    · obtain rfl : j = 9 := by omega
      have HE : Hid (kdF t = 0) := HK.out.trans rfl
      clear HK
      go_wp2
      go_ret
      exact ⟨by rw [HE.out]; rfl, KB.out⟩

end Go.Proofs.YtcmefhnfdcngfaaDoor
