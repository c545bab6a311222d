/- A time's text is read as it was. -/
import Derived.Test.YtdkodkkbggdpbabDoorWhnO
namespace Go.Proofs.YtdkodkkbggdpbabDoor
open Go.RowKit
set_option linter.unusedVariables false

theorem dgL_dg : ∀ i : Fin 100, (∀ c ∈ dgL i.val, Clk.isDg c = true) ∧ 1 ≤ (dgL i.val).length ∧ (dgL i.val).length ≤ 2 ∧ Clk.valD 0 (dgL i.val) = (i.val : Int) := by decide +kernel
theorem two_dgL {x : Nat} (h : x < 100) : (∀ c ∈ (Clk.twoB (x : Int)).data.toList, Clk.isDg c = true) ∧ (Clk.twoB (x : Int)).data.toList.length = 2 ∧ Clk.valD 0 (Clk.twoB (x : Int)).data.toList = x := by
  have a := Clk.digit_nat (k := x / 10) (by omega)
  have b := Clk.digit_nat (k := x % 10) (by omega)
  rw [Clk.twoB_two h]
  refine ⟨fun c hc => ?_, rfl, ?_⟩
  · simp only [List.mem_cons, List.not_mem_nil, or_false] at hc
    rcases hc with rfl | rfl
    · exact (Clk.isDg_iff _).2 (by omega)
    · exact (Clk.isDg_iff _).2 (by omega)
  · simp only [Clk.valD, List.foldl_cons, List.foldl_nil, a, b]
    omega
theorem face_dg {c : UInt8} (h : Clk.isDg c = true) : faceC c = true := by
  have := (Clk.isDg_iff c).1 h
  exact decide_eq_true (.inl (by omega))
theorem face_58 : faceC 58 = true := by decide
theorem idx_in : ∀ (l : List UInt8), (58 : UInt8) ∈ l → 0 ≤ Lib.indexByte l 58
  | [], h => (nomatch h)
  | b :: l, h => by
    unfold Lib.indexByte
    by_cases e : (b == 58) = true
    · rw [if_pos e]; exact Int.le_refl _
    · rw [if_neg e]
      have hm : (58 : UInt8) ∈ l := by
        rcases List.mem_cons.1 h with h | h
        · rw [← h] at e; exact absurd rfl e
        · exact h
      have r := idx_in l hm
      rw [if_neg (by rw [beq_iff_eq]; omega)]
      omega

/-- what the face and the letter behind it come to. -/
theorem at_read (F L : List UInt8) (h m sc : Int) (hF : ∀ c ∈ F, faceC c = true) (h58 : (58 : UInt8) ∈ F) (hL : L = [] ∨ ∃ x r, L = x :: r ∧ faceC x = false) (hf : Clk.Form F (h, m, sc, 0)) (hm : Clk.mkOk h m sc 0) :
    sV (F ++ L) = h * 3600 + m * 60 + sc ∧ sOk (F ++ L) = true ∧ (F ++ L).dropWhile faceC = L := by
  have r := tw_stop (p := faceC) (l := F ++ L) (k := F.length) (by simp) (fun c hc => hF c (by simpa using hc)) (by
    rcases hL with rfl | ⟨x, r, rfl, hx⟩
    · exact .inl (by simp)
    · exact .inr ⟨x, by simp, hx⟩)
  have e1 : (F ++ L).takeWhile faceC = F := by rw [r.1]; simp
  have e2 : (F ++ L).dropWhile faceC = L := by rw [r.2]; simp
  have e3 : fc (F ++ L) = F := by unfold fc; rw [e1, if_pos (idx_in F h58)]
  have e4 := Clk.c_of_form hf
  refine ⟨?_, ?_, e2⟩
  · unfold sV
    rw [e3, e4]
    show (Clk.mkV h m sc 0).tdiv 1000000 = _
    rw [Clk.mkV_in hm]
    unfold Clk.mkOk at hm
    rw [Int.tdiv_eq_ediv_of_nonneg (by omega)]
    omega
  · unfold sOk
    rw [e3, e4]
    show (Clk.mkE h m sc 0 == 0) = true
    rw [Clk.mkE_in hm]; rfl

theorem hms_form (s : Nat) (hs : s ≤ 86400) : ∃ F : List UInt8, (hmsT ((s : Int) / 3600) ((s : Int) / 60 % 60) ((s : Int) % 60)).data.toList = F ∧ (∀ c ∈ F, faceC c = true) ∧ (58 : UInt8) ∈ F ∧ Clk.Form F ((s : Int) / 3600, (s : Int) / 60 % 60, (s : Int) % 60, 0) ∧ F ≠ [45] ∧ F.length ≤ 20 := by
  obtain ⟨h, hh⟩ : ∃ h : Nat, (s : Int) / 3600 = (h : Int) := ⟨s / 3600, by omega⟩
  obtain ⟨m, hm⟩ : ∃ m : Nat, (s : Int) / 60 % 60 = (m : Int) := ⟨s / 60 % 60, by omega⟩
  obtain ⟨c, hc⟩ : ∃ c : Nat, (s : Int) % 60 = (c : Int) := ⟨s % 60, by omega⟩
  rw [hh, hm, hc]
  obtain ⟨a1, a2, a3, a4⟩ := dgL_dg ⟨h, by omega⟩
  obtain ⟨b1, b2, b3⟩ := two_dgL (x := m) (by omega)
  obtain ⟨c1, c2, c3⟩ := two_dgL (x := c) (by omega)
  simp only at a1 a2 a3 a4
  have eh := digB_L h (by omega)
  unfold hmsT
  by_cases hz : (c : Int) = 0
  · rw [if_pos hz]
    refine ⟨dgL h ++ 58 :: (Clk.twoB (m : Int)).data.toList, ?_, ?_, by simp, .inl ⟨_, _, ⟨a1, a2, a3⟩, ⟨b1, by omega, by omega⟩, rfl, by rw [a4, b3, hz]⟩, ?_, ?_⟩
    · rw [ByteArray.data_append, Array.toList_append, ByteArray.data_append, Array.toList_append, eh]; simp
    · intro x hx
      rcases List.mem_append.1 hx with hx | hx
      · exact face_dg (a1 x hx)
      · rcases List.mem_cons.1 hx with rfl | hx
        · exact face_58
        · exact face_dg (b1 x hx)
    · intro e
      have := congrArg List.length e
      simp at this
      omega
    · rw [List.length_append, List.length_cons, b2]; omega
  · rw [if_neg hz]
    refine ⟨dgL h ++ 58 :: ((Clk.twoB (m : Int)).data.toList ++ 58 :: (Clk.twoB (c : Int)).data.toList), ?_, ?_, by simp, .inr (.inl ⟨_, _, _, ⟨a1, a2, a3⟩, ⟨b1, by omega, by omega⟩, ⟨c1, by omega, by omega⟩, rfl, by rw [a4, b3, c3]⟩), ?_, ?_⟩
    · rw [ByteArray.data_append, Array.toList_append, ByteArray.data_append, Array.toList_append, ByteArray.data_append, Array.toList_append, ByteArray.data_append, Array.toList_append, eh]; simp
    · intro x hx
      rcases List.mem_append.1 hx with hx | hx
      · exact face_dg (a1 x hx)
      · rcases List.mem_cons.1 hx with rfl | hx
        · exact face_58
        · rcases List.mem_append.1 hx with hx | hx
          · exact face_dg (b1 x hx)
          · rcases List.mem_cons.1 hx with rfl | hx
            · exact face_58
            · exact face_dg (c1 x hx)
    · intro e
      have := congrArg List.length e
      simp at this
      omega
    · rw [List.length_append, List.length_cons, List.length_append, List.length_cons, b2, c2]; omega

theorem at_back (s k : Int) (h : okAt s k) (w : World) :
    Calls Tryd.prog 15 #[.string (atT s k)] w fun e w' => e = .returned (.tuple #[.agg #[.int .i64 s, .int .u8 k], .int .i64 0]) ∧ Below w.heap.size w w' := by
  obtain ⟨s0, s1, hk⟩ := h
  obtain ⟨i, rfl⟩ : ∃ i : Nat, s = (i : Int) := ⟨s.toNat, by omega⟩
  obtain ⟨F, eF, hF, h58, hf, hn, hz⟩ := hms_form i (by omega)
  have hm : Clk.mkOk ((i : Int) / 3600) ((i : Int) / 60 % 60) ((i : Int) % 60) 0 := by unfold Clk.mkOk; omega
  obtain ⟨L, eL, hL, hc⟩ : ∃ L : List UInt8, (atT (i : Int) k).data.toList = F ++ L ∧ (L = [] ∨ ∃ x r, L = x :: r ∧ faceC x = false) ∧ clkV L = k ∧ L.length ≤ 1 := by
    unfold atT
    rcases hk with rfl | rfl | rfl
    · exact ⟨[], by rw [if_pos rfl, eF, List.append_nil], .inl rfl, by decide, by simp⟩
    · exact ⟨[115], by rw [if_neg (by decide), ByteArray.data_append, Array.toList_append, eF]; rfl, .inr ⟨115, [], rfl, by decide⟩, by decide, by simp⟩
    · exact ⟨[117], by rw [if_neg (by decide), ByteArray.data_append, Array.toList_append, eF]; rfl, .inr ⟨117, [], rfl, by decide⟩, by decide, by simp⟩
  obtain ⟨v1, v2, v3⟩ := at_read F L _ _ _ hF h58 hL hf hm
  have hlen : (F ++ L).length ≤ 140737488351232 := by rw [List.length_append]; omega
  have SE : Hid (∀ w : World, Calls Tryd.prog 39 #[.string (atT (i : Int) k)] w fun e w' => e = .returned (.tuple #[.int .i64 (i : Int), .string ⟨L.toArray⟩, .bool true]) ∧ Below w.heap.size w w') := fun w => by
    have R := seconds_any (F ++ L) hlen w
    rw [v1, v2, v3, show (i : Int) / 3600 * 3600 + (i : Int) / 60 % 60 * 60 + (i : Int) % 60 = (i : Int) by omega, ← eL] at R
    exact R
  have CK : Hid (∀ w : World, Calls Tryd.prog 40 #[.string ⟨L.toArray⟩] w fun e w' => e = .returned (.int .u8 k) ∧ Below w.heap.size w w') := fun w => by
    have R := clockOf_any ⟨L.toArray⟩ w
    rw [Lib.toList_data, show clkV (⟨L.toArray⟩ : ByteArray).data.toList = k from hc.1] at R
    exact R
  refine rat_yes _ _ (i : Int) k ?_ (by omega) SE CK w
  rw [Lib.toList_data, eL]
  intro e
  rcases hL with rfl | ⟨x, r, rfl, _⟩
  · rw [List.append_nil] at e; exact hn e
  · have := congrArg List.length e
    have f2 : 1 ≤ F.length := List.length_pos_of_mem h58
    simp at this
    omega

end Go.Proofs.YtdkodkkbggdpbabDoor
