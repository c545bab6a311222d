/- Contracts of line.written and line.Join: lines as a source. -/
import Derived.Test.YtebjicnjbiiioaaDoorLnF
import Derived.Test.YtebjicnjbiiioaaDoorLnS
namespace Go.Proofs.YtebjicnjbiiioaaDoor
open Go.RowKit
set_option linter.unusedVariables false

/-- a field as it stands in a source. -/
def wrQ (f : ByteArray) : Bool := decide (f.size = 0) || Lib.containsAny f.data.toList [32, 9, 35]
def wrB (f : ByteArray) : ByteArray := if wrQ f = true then ⟨#[34]⟩ ++ f ++ ⟨#[34]⟩ else f
theorem wrB_size (f : ByteArray) : (wrB f).size ≤ f.size + 2 := by
  unfold wrB
  split
  · rw [ByteArray.size_append, ByteArray.size_append]
    show 1 + f.size + 1 ≤ _
    omega
  · omega
def Asc (f : ByteArray) : Prop := f.size ≤ 8192 ∧ ∀ (j : Nat) b, f.data.toList[j]? = some b → b.toNat < 128
theorem retS {a b : ByteArray} (h : a = b) : Ending.returned (.string a) = .returned (.string b) := by rw [h]

set_option maxRecDepth 100000 in
set_option maxHeartbeats 2000000 in
theorem written_any (f : ByteArray) (hf : Asc f) (w : World) :
    Calls Tryd.prog 48 #[.string f] w fun e w' => e = .returned (.string (wrB f)) ∧ Below w.heap.size w w' := by
  have hs := hf.1
  have z1 : (⟨#[34]⟩ : ByteArray).size + f.size ≤ 9223372036854775807 := by show 1 + _ ≤ _; omega
  have z2 : (⟨#[34]⟩ ++ f : ByteArray).size + (⟨#[34]⟩ : ByteArray).size ≤ 9223372036854775807 := by rw [ByteArray.size_append]; show 1 + _ + 1 ≤ _; omega
  by_cases h0 : f.size = 0
  · have e0 : f = ⟨#[]⟩ := by
      have : f.data.toList = [] := List.eq_nil_of_length_eq_zero (by simpa using h0)
      cases f with
      | mk d => congr; exact Array.toList_inj.1 this
    subst e0
    go_enter Tryd.func48, Tryd.ntmps48
    go_wp2_with fail
    go_ret
    exact ⟨retS (by decide +kernel), Below.refl _ _⟩
  · have hc := Tryd.strings_ContainsAny_laid f ⟨#[32, 9, 35]⟩ 
    have HC : Hid (∀ w : World, Calls Tryd.prog 69 #[.string f, .string ⟨#[32, 9, 35]⟩] w fun e w' => e = .returned (.bool (Lib.containsAny f.data.toList [32, 9, 35])) ∧ Below w.heap.size w w') := fun w => Tryd.strings_ContainsAny_laid f ⟨#[32, 9, 35]⟩ w (by omega) (by decide) hf.2 (fun j b hb => by
      have hm := List.mem_of_getElem? hb
      have : b = 32 ∨ b = 9 ∨ b = 35 := by simpa using hm
      rcases this with rfl | rfl | rfl <;> decide)
    have hne : (f.toList == []) = false := by
      rw [beq_eq_false_iff_ne, Lib.toList_data]
      intro q
      have hl : f.data.toList.length = f.size := by simp
      rw [q] at hl
      exact h0 hl.symm
    have HE : Hid (wrB f = if Lib.containsAny f.data.toList [32, 9, 35] = true then ⟨#[34]⟩ ++ f ++ ⟨#[34]⟩ else f) := by
      show _ = _
      unfold wrB wrQ
      rw [decide_eq_false h0, Bool.false_or]
    clear hc h0 hf
    generalize wrB f = R at *
    generalize Lib.containsAny f.data.toList [32, 9, 35] = C at *
    go_enter Tryd.func48, Tryd.ntmps48
    go_wp2_with fail
    refine (HC.out _).mono ?_
    rintro e w1 ⟨rfl, hb⟩
    have HB : Hid (Below w.heap.size w w1) := hb
    clear hb HC
    cases C
    · go_wp2_with fail
      go_ret
      exact ⟨retS HE.out.symm, HB.out⟩
    · go_wp2_with fail
      go_ret
      exact ⟨retS HE.out.symm, HB.out⟩

/-- fields with blanks between them, so many; lines, so many. -/
def partF (F : List ByteArray) : Nat → List UInt8
  | 0 => []
  | j + 1 => partF F j ++ (if 0 < j then [32] else []) ++ (wrB (F.getD j ⟨#[]⟩)).data.toList
def lineF (F : List ByteArray) : List UInt8 := partF F F.length ++ [10]
def joinK (L : List Lne) : Nat → List UInt8
  | 0 => []
  | k + 1 => joinK L k ++ lineF (L.getD k (0, [])).2
def joinB (L : List Lne) : ByteArray := ⟨(joinK L L.length).toArray⟩
/-- what can be joined: not too much. -/
def Fine (L : List Lne) : Prop := L.length ≤ 400 ∧ ∀ p ∈ L, p.2.length ≤ 16 ∧ ∀ f ∈ p.2, Asc f
theorem partF_length {F : List ByteArray} (h : ∀ f ∈ F, Asc f) : ∀ j, j ≤ F.length → (partF F j).length ≤ j * 8195
  | 0, _ => by simp [partF]
  | j + 1, hj => by
    have ih := partF_length h j (by omega)
    have hm : F.getD j ⟨#[]⟩ ∈ F := by
      rw [List.getD_eq_getElem?_getD, List.getElem?_eq_getElem (by omega)]
      exact List.getElem_mem _
    have h1 := wrB_size (F.getD j ⟨#[]⟩)
    have h2 := (h _ hm).1
    have h3 : (wrB (F.getD j ⟨#[]⟩)).data.toList.length = (wrB (F.getD j ⟨#[]⟩)).size := by simp
    rw [partF, List.length_append, List.length_append, h3]
    have : (if 0 < j then [32] else ([] : List UInt8)).length ≤ 1 := by split <;> simp
    omega
theorem joinK_length {L : List Lne} (h : Fine L) : ∀ k, k ≤ L.length → (joinK L k).length ≤ k * 131121
  | 0, _ => by simp [joinK]
  | k + 1, hk => by
    have ih := joinK_length h k (by omega)
    have hm : L.getD k (0, []) ∈ L := by
      rw [List.getD_eq_getElem?_getD, List.getElem?_eq_getElem (by omega)]
      exact List.getElem_mem _
    obtain ⟨h1, h2⟩ := h.2 _ hm
    have h3 := partF_length h2 _ (Nat.le_refl _)
    rw [joinK, lineF, List.length_append, List.length_append]
    show _ + (_ + 1) ≤ _
    omega
theorem bytes_more (l : List UInt8) (c : UInt8) (x : Int) (h : (c.toNat : Int) = x) : Lib.byteCells l ++ [.int .u8 x] = Lib.byteCells (l ++ [c]) := by simp [Lib.byteCells, ← h]
theorem bytes_str (l : List UInt8) (s : ByteArray) : Lib.byteCells l ++ Lib.strCells s = Lib.byteCells (l ++ s.data.toList) := by simp [Lib.byteCells, Lib.strCells]
theorem built_new (w : World) : Lib.IsBuilderF 83 5 w.heap.size w.heap.size (Lib.byteCells []) (w.alloc (.cells #[.pointer none, .slice none 0 0] 83)) :=
  .inl ⟨Nat.le_refl _, .slice none 0 0, heap_alloc_new w _, World.ownsRowF_nil _ _ _ _, by simp [Value.ownBlock]⟩
theorem built_at {T e : TypeId} {B b : Nat} {p : Value} {bs : List Value} {W W1 : World} (h : Lib.BuilderAtF T e B b p bs W) (hb : Below W.heap.size W W1) : Lib.BuilderAtF T e B b p bs W1 := by
  obtain ⟨hB, v, hh, ho, hne⟩ := h
  refine ⟨hB, v, (hb.block _ (Array.getElem?_eq_some_iff.1 hh).1).trans hh, ⟨ho.1, ?_⟩, hne⟩
  rcases ho.2 with h0 | ⟨g, cap, cur, fz, e0, h1, h2, h3⟩
  · exact .inl h0
  · exact .inr ⟨g, cap, cur, fz, e0, h1, (hb.block _ (Array.getElem?_eq_some_iff.1 h2).1).trans h2, h3⟩
theorem built_below {T e : TypeId} {B b : Nat} {bs : List Value} {W W1 : World} (h : Lib.IsBuilderF T e B b bs W) (hb : Below W.heap.size W W1) : Lib.IsBuilderF T e B b bs W1 :=
  h.elim (fun x => .inl (built_at x hb)) (fun x => .inr (built_at x hb))
theorem saidL_at {l : List LnV} {k : Nat} {N : Int} {u : Value} {F : List ByteArray} (h : l[k]? = some (N, u, F)) : (saidL l).getD k (0, []) = (N, F) := by
  unfold saidL
  rw [List.getD_eq_getElem?_getD, List.getElem?_map, h]; rfl

set_option maxRecDepth 1000000 in
set_option maxHeartbeats 8000000 in
theorem join_any (l : List LnV) (v : Value) (base : Nat) (w : World) (h : OwnL w base 78 v l) (hF : Fine (saidL l)) :
    Calls Tryd.prog 23 #[v] w fun e w' => e = .returned (.string (joinB (saidL l))) ∧ Below w.heap.size w w' := by
  have c78 : Tryd.prog.cellsOf 78 = 2 := by kernel_rfl
  obtain ⟨n, hn⟩ : ∃ n, l.length = n := ⟨_, rfl⟩
  have HN : Hid (l.length = n) := hn
  have HSN : Hid ((saidL l).length = n) := by show _ = _; unfold saidL; rw [List.length_map]; exact hn
  have hn4 : n ≤ 400 := by have := hF.1; rw [HSN.out] at this; exact this
  have HFi : Hid (Fine (saidL l)) := hF
  have HJ : Hid (joinB (saidL l) = ⟨(joinK (saidL l) n).toArray⟩) := by show _ = _; unfold joinB; rw [HSN.out]
  have HL : Hid (OwnL w base 78 v l) := h
  have HO : Hid (w.ownsRow base 78 2 v n (flatL l)) := by have := h.1; rw [hn] at this; exact this
  generalize joinB (saidL l) = R at *
  clear h hF hn
  obtain ⟨a0, c0, e0⟩ := row_form HO.out
  subst e0
  have hnm : n ≤ 9223372036854775807 := by omega
  go_enter Tryd.func23, Tryd.ntmps23
  go_wp2_with fail
  go_loopw [10] (fun i W => ∃ k : Nat, k ≤ n ∧ i = .int .i64 (k : Int) ∧ Hid (Lib.IsBuilderF 83 5 w.heap.size w.heap.size (Lib.byteCells (joinK (saidL l) k)) W) ∧ Hid (Below w.heap.size w W)) (fun i _ => n - (intOf i).toNat)
  case atStart => exact ⟨0, Nat.zero_le _, rfl, built_new w, (Below.refl _ _).alloc (Nat.le_refl _) _⟩
  case round =>
    obtain ⟨k, hk, rfl, HI, HB⟩ := hrel
    have hkl := joinK_length HFi.out k (by rw [HSN.out]; exact hk)
    by_cases hkn : k < n
    · have hkn' : (k : Int) < (n : Int) := by omega
      have hk0 : (0 : Int) ≤ (k : Int) := by omega
      have hkw : IntKind.i64.wrap ((k : Int) + 1) = (k : Int) + 1 := by rw [IntKind.wrap_i64]; omega
      obtain ⟨⟨N, u, F⟩, hr⟩ : ∃ r, l[k]? = some r := ⟨_, List.getElem?_eq_getElem (by rw [HN.out]; exact hkn)⟩
      obtain ⟨g, c0', e0, b1, b2, hg⟩ := row_some HO.out (by omega)
      obtain ⟨rfl, rfl⟩ : a0 = some ⟨g, 0, none⟩ ∧ c0 = c0' := by simpa using e0
      unfold maxLen at b2
      have hat := ownL_at HO.out HN.out k _ hr
      have a1 : wr.cell? ⟨g, k * 2, none⟩ = some (.int .i64 N) := (HB.out.cell (p := ⟨g, k * 2, none⟩) hg).trans hat.1
      have a2 : wr.cell? ⟨g, k * 2 + 1, none⟩ = some u := (HB.out.cell (p := ⟨g, k * 2 + 1, none⟩) hg).trans hat.2
      obtain ⟨q, hq⟩ : ∃ q, F.length = q := ⟨_, rfl⟩
      have O1 : Hid (w.ownsRow base 9 1 u q (cellsS F)) := by have := HL.out.2 _ (List.mem_of_getElem? hr); rw [← hq]; exact this
      obtain ⟨p1, d1, e1⟩ := row_form O1.out
      subst e1
      have hsa := saidL_at hr
      have hfine : F.length ≤ 16 ∧ ∀ f ∈ F, Asc f := by
        have hm : (N, F) ∈ saidL l := by
          rw [← hsa, List.getD_eq_getElem?_getD, List.getElem?_eq_getElem (by rw [HSN.out]; exact hkn)]
          exact List.getElem_mem _
        exact HFi.out.2 _ hm
      have HFf : Hid (∀ f ∈ F, Asc f) := hfine.2
      have hq16 : q ≤ 16 := by rw [← hq]; exact hfine.1
      have HQ : Hid (F.length = q) := hq
      have HK1 : Hid (joinK (saidL l) (k + 1) = joinK (saidL l) k ++ partF F q ++ [10]) := by
        show _ = _
        rw [joinK, hsa, lineF, hq, List.append_assoc]
      generalize joinK (saidL l) k = A at *
      have HI1 : Hid (Lib.IsBuilderF 83 5 w.heap.size w.heap.size (Lib.byteCells A) (wr.alloc (.cells #[.int .i64 N, .slice p1 q d1] 78))) := HI.out.alloc _
      have HB1 : Hid (Below w.heap.size w (wr.alloc (.cells #[.int .i64 N, .slice p1 q d1] 78))) := HB.out.alloc HB.out.size _
      clear hat hr hfine hsa e0 HI HB hq
      go_wp2_with fail
      go_loopw [17] (fun i W => ∃ j : Nat, j ≤ q ∧ i = .int .i64 (j : Int) ∧ Hid (Lib.IsBuilderF 83 5 w.heap.size w.heap.size (Lib.byteCells (A ++ partF F j)) W) ∧ Hid (Below w.heap.size w W)) (fun i _ => q - (intOf i).toNat)
      case atStart => exact ⟨0, Nat.zero_le _, rfl, by show Lib.IsBuilderF _ _ _ _ (Lib.byteCells (A ++ [])) _; rw [List.append_nil]; exact HI1.out, HB1⟩
      case round =>
        clear HI1 HB1 a1 a2
        obtain ⟨j, hj, rfl, HI, HB⟩ := hrel
        have hpl := partF_length HFf.out j (by rw [HQ.out]; exact hj)
        have hlen : (A ++ partF F j).length ≤ 60000000 := by rw [List.length_append]; omega
        by_cases hjq : j < q
        · have hjq' : (j : Int) < (q : Int) := by omega
          have hj0 : (0 : Int) ≤ (j : Int) := by omega
          have hjw : IntKind.i64.wrap ((j : Int) + 1) = (j : Int) + 1 := by rw [IntKind.wrap_i64]; omega
          obtain ⟨x, hx⟩ : ∃ x, F[j]? = some x := ⟨_, List.getElem?_eq_getElem (by rw [HQ.out]; exact hjq)⟩
          obtain ⟨gg1, cc1, ee1, n1, n2, hgg⟩ := row_some O1.out (by omega)
          obtain ⟨rfl, rfl⟩ : p1 = some ⟨gg1, 0, none⟩ ∧ d1 = cc1 := by simpa using ee1
          unfold maxLen at n2
          have z1 : wr.cell? ⟨gg1, j, none⟩ = some (.string x) := (HB.out.cell (p := ⟨gg1, j, none⟩) hgg).trans (ownS_at O1.out HQ.out j x hx)
          have hAx := HFf.out x (List.mem_of_getElem? hx)
          have HWR : Hid (∀ W : World, Calls Tryd.prog 48 #[.string x] W fun e w' => e = .returned (.string (wrB x)) ∧ Below W.heap.size W w') := written_any x hAx
          have hwz : (wrB x).size ≤ 8194 := by have := wrB_size x; have := hAx.1; omega
          have HP1 : Hid (A ++ partF F (j + 1) = (A ++ partF F j ++ (if 0 < j then [32] else [])) ++ (wrB x).data.toList) := by
            show _ = _
            rw [partF, List.getD_eq_getElem?_getD, hx]
            simp
          generalize wrB x = X at *
          generalize A ++ partF F j = Z at *
          clear hx ee1 hAx hpl
          go_upto_if 23 with fail
          go_cut [] from 22 to 24 (fun W => Lib.IsBuilderF 83 5 w.heap.size w.heap.size (Lib.byteCells (Z ++ (if 0 < j then [32] else []))) W ∧ Below w.heap.size w W)
          case first =>
            by_cases hj1 : 0 < j
            · have hj1' : (0 : Int) < (j : Int) := by omega
              have HJ1 : Hid (0 < j) := hj1
              clear HP1 HWR hj1
              go_wp2_with fail
              refine (writeByte w.heap.size w.heap.size (Lib.byteCells Z) 32 _ HI.out (by rw [Lib.byteCells_length]; omega) HB.out.size).mono ?_
              rintro e w2 ⟨rfl, hI2, hb2, _⟩
              rw [bytes_more Z 32 32 rfl] at hI2
              go_wp2_with fail
              go_meet
              case rel => exact ⟨by rw [if_pos HJ1.out]; exact .inr hI2, HB.out.trans hb2⟩
            · have hj1' : ¬ (0 : Int) < (j : Int) := by omega
              have HJ1 : Hid (¬ 0 < j) := hj1
              clear HP1 HWR hj1
              go_wp2_with fail
              go_meet
              case rel => exact ⟨by rw [if_neg (by have := HJ1.out; omega), List.append_nil]; exact HI.out, HB.out⟩
          case rest =>
            obtain ⟨hI2, hB2⟩ := hcut
            have hl2 : (Z ++ (if 0 < j then [32] else [])).length ≤ 60000001 := by rw [List.length_append]; split <;> simp <;> omega
            generalize Z ++ (if 0 < j then [32] else []) = Y at *
            clear HI HB z1
            go_wp2_with fail
            refine (HWR.out _).mono ?_
            rintro e w3 ⟨rfl, hb3⟩
            have hI3 := built_below hI2 hb3
            have HB3 : Hid (Below w.heap.size w w3) := hB2.trans (hb3.mono hB2.size)
            clear hI2 hB2 hb3 HWR
            go_wp2_with fail
            refine (writeString w.heap.size w.heap.size (Lib.byteCells Y) X _ hI3 (by rw [Lib.byteCells_length]; omega) HB3.out.size).mono ?_
            rintro e w4 ⟨rfl, hI4, hb4, _⟩
            rw [bytes_str, ← HP1.out] at hI4
            have HB4 : Hid (Below w.heap.size w w4) := HB3.out.trans hb4
            clear hI3 HB3 hb4
            go_wp2_with fail
            go_roundw
            case rel => exact ⟨j + 1, by omega, by go_num, .inr hI4, HB4⟩
            case measure => simp [intOf]; omega
        · have hjq' : ¬ (j : Int) < (q : Int) := by omega
          have ej : j = q := by omega
          subst ej
          go_wp2_with fail
          refine (writeByte w.heap.size w.heap.size (Lib.byteCells (A ++ partF F j)) 10 _ HI.out (by rw [Lib.byteCells_length]; omega) HB.out.size).mono ?_
          rintro e w2 ⟨rfl, hI2, hb2, _⟩
          rw [bytes_more _ 10 10 rfl, ← HK1.out] at hI2
          go_wp2_with fail
          go_roundw
          case rel => exact ⟨k + 1, by omega, by go_num, .inr hI2, HB.out.trans hb2⟩
          case measure => simp [intOf]; omega
    · have hkn' : ¬ (k : Int) < (n : Int) := by omega
      have ek : k = n := by omega
      subst ek
      go_wp2_with fail
      refine (Tryd.Builder_String_any_k w.heap.size w.heap.size (joinK (saidL l) k) _ HI.out HB.out.size).mono ?_
      rintro e w2 ⟨rfl, _, hb2, _⟩
      have HB2 : Hid (Below w.heap.size w w2) := HB.out.trans hb2
      clear hb2 HI HB
      go_wp2_with fail
      go_ret
      exact ⟨retS HJ.out.symm, HB2.out⟩

end Go.Proofs.YtebjicnjbiiioaaDoor
