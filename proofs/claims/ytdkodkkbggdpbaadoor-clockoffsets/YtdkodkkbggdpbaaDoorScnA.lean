/- Contracts of the reference's scan: a sign that may come, a number of some digits. -/
import Derived.Test.YtdkodkkbggdpbaaDoorDigF
namespace Go.Proofs.YtdkodkkbggdpbaaDoor
open Go.RowKit
set_option linter.unusedVariables false

/-- the scan's block: what is left of the text, and whether something was wrong. -/
def SBox (w : World) (b : Nat) (l : List UInt8) (bad : Bool) : Prop :=
  b < w.heap.size ∧ w.cell? ⟨b, 0, none⟩ = some (.string ⟨l.toArray⟩) ∧ w.cell? ⟨b, 1, none⟩ = some (.bool bad) ∧ w.frozen? ⟨b, 0, none⟩ = false ∧ w.frozen? ⟨b, 1, none⟩ = false
theorem SBox.set0 {w : World} {b : Nat} {l : List UInt8} {bad : Bool} (h : SBox w b l bad) (s : ByteArray) (r : List UInt8) (hs : s = ⟨r.toArray⟩) : SBox (w.setCell ⟨b, 0, none⟩ (.string s)) b r bad := by
  obtain ⟨h1, h2, h3, h4, h5⟩ := h
  subst hs
  exact ⟨by simpa [World.setCell] using h1, World.cell?_setCell_same _ _ _ h2, (World.cell?_setCell_other _ _ _ _ (addr_ne (by decide))).trans h3, by simpa using h4, by simpa using h5⟩
theorem SBox.set1 {w : World} {b : Nat} {l : List UInt8} {bad : Bool} (h : SBox w b l bad) (q : Bool) : SBox (w.setCell ⟨b, 1, none⟩ (.bool q)) b l q := by
  obtain ⟨h1, h2, h3, h4, h5⟩ := h
  exact ⟨by simpa [World.setCell] using h1, (World.cell?_setCell_other _ _ _ _ (addr_ne (by decide))).trans h2, World.cell?_setCell_same _ _ _ h3, by simpa using h4, by simpa using h5⟩
theorem SBox.below {w w1 : World} {b : Nat} {l : List UInt8} {bad : Bool} (h : SBox w b l bad) {B : Nat} (hb : Below B w w1) (hB : b < B) : SBox w1 b l bad :=
  ⟨Nat.lt_of_lt_of_le h.1 hb.size, (hb.cell (p := ⟨b, 0, none⟩) hB).trans h.2.1, (hb.cell (p := ⟨b, 1, none⟩) hB).trans h.2.2.1, (hb.frozen (p := ⟨b, 0, none⟩) hB).trans h.2.2.2.1, (hb.frozen (p := ⟨b, 1, none⟩) hB).trans h.2.2.2.2⟩

theorem ix_of (s : ByteArray) (l : List UInt8) (k : Nat) (x : UInt8) (hs : s = ⟨l.toArray⟩) (hx : l[k]? = some x) (w0 : World) : (Instr.index 9 (.string s) (.int .i64 (k : Int))).run Tryd.prog w0 = .ok (.int .u8 (x.toNat : Int)) w0 := by
  obtain ⟨hl, he⟩ := List.getElem?_eq_some_iff.1 hx
  have hz : s.size = l.length := by rw [hs]; show l.toArray.size = _; simp
  rw [run_index_string w0 9 s .i64 (k : Int) Tryd.underlying9, dif_pos ⟨by omega, by omega⟩]
  subst hs
  show Result.ok (Value.int .u8 ((l.toArray[((k : Nat) : Int).toNat]'_).toNat : Int)) w0 = _
  simp [he]

/-- whether this sign comes, and what is left. -/
def sgnB (c : UInt8) : List UInt8 → Bool
  | [] => false
  | x :: r => x == c
def sgnL (c : UInt8) : List UInt8 → List UInt8
  | [] => []
  | x :: r => if x = c then r else x :: r

set_option maxRecDepth 100000 in
set_option maxHeartbeats 1000000 in
theorem sign_any (b : Nat) (l : List UInt8) (bad : Bool) (c : UInt8) (w : World) (h : SBox w b l bad) (hl : l.length ≤ 140737488351232) :
    Calls Tryd.prog 38 #[.pointer (some ⟨b, 0, none⟩), .int .u8 (c.toNat : Int)] w fun e w' => e = .returned (.bool (sgnB c l)) ∧ SBox w' b (sgnL c l) bad ∧ Below b w w' := by
  have HS : Hid (SBox w b l bad) := h
  obtain ⟨h1, h2, h3, h4, h5⟩ := h
  cases l with
  | nil =>
    have h2' : w.cell? ⟨b, 0, none⟩ = some (.string ⟨#[]⟩) := h2
    clear h2
    go_enter Tryd.func38, Tryd.ntmps38
    go_wp2
    go_ret
    exact ⟨rfl, HS.out, Below.refl _ _⟩
  | cons x r =>
    obtain ⟨s, hs⟩ : ∃ s : ByteArray, s = ⟨(x :: r).toArray⟩ := ⟨_, rfl⟩
    rw [← hs] at h2
    obtain ⟨k, hk⟩ : ∃ k, k = r.length := ⟨_, rfl⟩
    have hsz : s.size = k + 1 := by rw [hs, hk]; show (x :: r).toArray.size = _; simp
    have hix : ∀ w0 : World, (Instr.index 9 (.string s) (.int .i64 0)).run Tryd.prog w0 = .ok (.int .u8 (x.toNat : Int)) w0 := ix_of s (x :: r) 0 x hs rfl
    have HX : Hid (s.extract 1 (k + 1) = ⟨r.toArray⟩) := by
      show _ = _
      rw [hs, hk]
      apply ByteArray.ext
      simp
    have hk0 : ((k : Int) + 1 == 0) = false := beq_eq_false_iff_ne.2 (by omega)
    have hkb : k ≤ 140737488351232 := by rw [hk]; simp at hl; omega
    by_cases hc : x = c
    · have e1 : sgnB c (x :: r) = true := by simp [sgnB, hc]
      have e2 : sgnL c (x :: r) = r := by simp [sgnL, hc]
      rw [e1, e2]
      rw [hc] at hix
      clear hs hk e1 e2 hc hl
      generalize (c.toNat : Int) = y at *
      go_enter Tryd.func38, Tryd.ntmps38
      go_wp2
      go_ret
      exact ⟨rfl, HS.out.set0 _ r HX.out, (Below.refl b w).setCell (show b ≤ b from Nat.le_refl _) _⟩
    · have e1 : sgnB c (x :: r) = false := by simp [sgnB, hc]
      have e2 : sgnL c (x :: r) = x :: r := by simp [sgnL, hc]
      rw [e1, e2]
      have hn : (x.toNat : Int) ≠ (c.toNat : Int) := fun e => hc (UInt8.toNat_inj.1 (by omega))
      clear hs hk e1 e2 hc hl
      generalize (c.toNat : Int) = y at *
      generalize (x.toNat : Int) = z at *
      have hn1 : (z == y) = false := beq_eq_false_iff_ne.2 hn
      have hn2 : (z != y) = true := bne_iff_ne.2 hn
      clear hn
      go_enter Tryd.func38, Tryd.ntmps38
      go_wp2
      go_ret
      exact ⟨rfl, HS.out, Below.refl _ _⟩

/-- digits at the beginning, no more than these. -/
def isDg (c : UInt8) : Bool := decide (48 ≤ c.toNat) && decide (c.toNat ≤ 57)
def digs (most : Nat) (l : List UInt8) : List UInt8 := (l.take most).takeWhile isDg
theorem digs_stop {most : Nat} {l : List UInt8} {k : Nat} (hk : k ≤ most) (hl : k ≤ l.length) (hd : ∀ c ∈ l.take k, isDg c = true) (he : k = most ∨ k = l.length ∨ ∃ x, l[k]? = some x ∧ isDg x = false) : digs most l = l.take k := by
  have hsplit : l.take most = l.take k ++ (l.drop k).take (most - k) := by
    rw [← List.take_append_drop k (l.take most), List.take_take, List.drop_take, Nat.min_eq_left hk]
  unfold digs
  rw [hsplit, List.takeWhile_append_of_pos hd]
  rcases he with rfl | rfl | ⟨x, hx, hn⟩
  · simp
  · simp
  · obtain ⟨hlt, hg⟩ := List.getElem?_eq_some_iff.1 hx
    rw [List.drop_eq_getElem_cons hlt, hg]
    cases most - k with
    | zero => simp
    | succ q => simp [hn]
theorem valD_bd : ∀ (ds : List UInt8) (n : Int) , 0 ≤ n → (∀ c ∈ ds, isDg c = true) → 0 ≤ valD n ds ∧ valD n ds < (n + 1) * 10 ^ ds.length
  | [], n, h, _ => by simp [valD]; omega
  | c :: ds, n, h, hd => by
    have hc : isDg c = true := hd c (by simp)
    unfold isDg at hc
    simp only [Bool.and_eq_true, decide_eq_true_eq] at hc
    have r := valD_bd ds (n * 10 + ((c.toNat : Int) - 48)) (by omega) (fun x hx => hd x (by simp [hx]))
    refine ⟨r.1, Int.lt_of_lt_of_le r.2 ?_⟩
    rw [List.length_cons, Int.pow_succ, Int.mul_comm (10 ^ ds.length) 10, ← Int.mul_assoc]
    exact Int.mul_le_mul_of_nonneg_right (by omega) (Int.le_of_lt (Int.pow_pos (by decide)))

set_option maxRecDepth 100000 in
set_option maxHeartbeats 4000000 in
theorem num_any (b : Nat) (l : List UInt8) (bad : Bool) (least most : Nat) (hm : most ≤ 6) (hle : least ≤ 6) (w : World) (h : SBox w b l bad) (hl : l.length ≤ 140737488351232) :
    Calls Tryd.prog 37 #[.pointer (some ⟨b, 0, none⟩), .int .i64 (least : Int), .int .i64 (most : Int)] w fun e w' => e = .returned (.int .i64 (valD 0 (digs most l))) ∧ SBox w' b (l.drop (digs most l).length) (bad || decide ((digs most l).length < least)) ∧ Below b w w' := by
  have HS : Hid (SBox w b l bad) := h
  obtain ⟨h1, h2, h3, h4, h5⟩ := h
  obtain ⟨s, hs⟩ : ∃ s : ByteArray, s = ⟨l.toArray⟩ := ⟨_, rfl⟩
  have HSS : Hid (s = ⟨l.toArray⟩) := hs
  obtain ⟨N, hN⟩ : ∃ N, N = l.length := ⟨_, rfl⟩
  have HNN : Hid (N = l.length) := hN
  have hsz : s.size = N := by rw [hs, hN]; show l.toArray.size = _; simp
  rw [← hs] at h2
  rw [← hN] at hl
  clear hs hN
  go_enter Tryd.func37, Tryd.ntmps37
  go_wp2_with fail
  go_loopw [7, 8] (fun v kv W => ∃ k : Nat, k ≤ most ∧ k ≤ N ∧ v = .int .i64 (valD 0 (l.take k)) ∧ kv = .int .i64 (k : Int) ∧ W = w ∧ Hid (∀ c ∈ l.take k, isDg c = true)) (fun _ kv _ => 6 - (intOf kv).toNat)
  case atStart => exact ⟨0, Nat.zero_le _, Nat.zero_le _, by simp [valD], rfl, rfl, fun c hc => by simp at hc⟩
  case round =>
    obtain ⟨k, hk, hkN, rfl, rfl, hwr, HD⟩ := hrel
    obtain rfl := hwr
    have stop : (k = most ∨ k = l.length ∨ ∃ x, l[k]? = some x ∧ isDg x = false) → Hid (digs most l = l.take k) := fun he => digs_stop hk (by rw [← HNN.out]; exact hkN) HD.out he
    have hlen : (l.take k).length = k := by rw [List.length_take, ← HNN.out]; omega
    obtain ⟨v1, v2⟩ := valD_bd (l.take k) 0 (by omega) HD.out
    have p6 : (10 : Int) ^ k ≤ 1000000 := by
      have : ∀ z : Fin 7, (10 : Int) ^ z.val ≤ 1000000 := by decide
      exact this ⟨k, by omega⟩
    rw [hlen] at v2
    have v3 : valD 0 (l.take k) ≤ 999999 := by omega
    clear v2 p6
    have HLn : Hid ((l.take k).length = k) := hlen
    have HEX : Hid (s.extract k N = ⟨(l.drop k).toArray⟩) := by
      show _ = _
      rw [HSS.out, HNN.out]
      apply ByteArray.ext
      simp
      exact List.take_of_length_le (by simp)
    clear hlen
    by_cases hkm : k < most
    · have hkm' : (k : Int) < (most : Int) := by omega
      by_cases hkn : k < N
      · have hkn' : (k : Int) < (N : Int) := by omega
        obtain ⟨x, hx⟩ : ∃ x, l[k]? = some x := ⟨l[k]'(by rw [← HNN.out]; exact hkn), List.getElem?_eq_getElem (by rw [← HNN.out]; exact hkn)⟩
        have hix : ∀ w0 : World, (Instr.index 9 (.string s) (.int .i64 (k : Int))).run Tryd.prog w0 = .ok (.int .u8 (x.toNat : Int)) w0 := ix_of s l k x HSS.out hx
        have HX : Hid (l[k]? = some x) := hx
        have HQ : Hid (isDg x = (decide ((48 : Int) ≤ (x.toNat : Int)) && decide ((x.toNat : Int) ≤ 57))) := by
          show _ = _
          unfold isDg
          congr 1 <;> rw [decide_eq_decide] <;> omega
        have x0 : (0 : Int) ≤ (x.toNat : Int) := by omega
        have x2 : (x.toNat : Int) ≤ 255 := by have := x.toNat_lt; omega
        clear hx
        by_cases c1 : (48 : Int) ≤ (x.toNat : Int)
        · by_cases c2 : (x.toNat : Int) ≤ 57
          · have HD' : Hid (∀ c ∈ l.take (k + 1), isDg c = true) := fun c hc => by
              rw [List.take_add_one, HX.out] at hc
              rcases List.mem_append.1 hc with hc | hc
              · exact HD.out c hc
              · simp at hc; rw [hc, HQ.out, decide_eq_true c1, decide_eq_true c2]; rfl
            have HV : Hid (valD 0 (l.take (k + 1)) = 10 * valD 0 (l.take k) + ((x.toNat : Int) - 48)) := by
              show _ = _
              rw [List.take_add_one, HX.out]
              show valD 0 (l.take k ++ [x]) = _
              rw [valD_more, Int.mul_comm]
            clear HD stop HQ HX HEX HLn
            generalize (x.toNat : Int) = X at *
            go_wp2_with fail
            go_roundw
            case rel => exact ⟨k + 1, by omega, by omega, by rw [HV.out], rfl, (by first | trivial | rfl), HD'⟩
            case measure => simp [intOf]; omega
          · have hno : isDg x = false := by rw [HQ.out, decide_eq_true c1, decide_eq_false c2]; rfl
            have HG := stop (.inr (.inr ⟨x, HX.out, hno⟩))
            clear stop
            by_cases hkl : k < least
            · have hkl' : (k : Int) < (least : Int) := by omega
              have HK : Hid (k < least) := hkl
              clear hkl
              go_wp2
              go_ret
              refine ⟨ret_int (by rw [HG.out]), ?_, ((Below.refl b wr).setCell (show b ≤ b from Nat.le_refl _) _).setCell (show b ≤ b from Nat.le_refl _) _⟩
              rw [HG.out, HLn.out, decide_eq_true HK.out, Bool.or_true]
              exact (HS.out.set1 true).set0 _ _ HEX.out
            · have hkl' : ¬ (k : Int) < (least : Int) := by omega
              have HK : Hid (¬ k < least) := hkl
              clear hkl
              go_wp2
              go_ret
              refine ⟨ret_int (by rw [HG.out]), ?_, (Below.refl b wr).setCell (show b ≤ b from Nat.le_refl _) _⟩
              rw [HG.out, HLn.out, decide_eq_false HK.out, Bool.or_false]
              exact HS.out.set0 _ _ HEX.out
        · have hno : isDg x = false := by rw [HQ.out, decide_eq_false c1]; rfl
          have HG := stop (.inr (.inr ⟨x, HX.out, hno⟩))
          clear stop
          by_cases hkl : k < least
          · have hkl' : (k : Int) < (least : Int) := by omega
            have HK : Hid (k < least) := hkl
            clear hkl
            go_wp2
            go_ret
            refine ⟨ret_int (by rw [HG.out]), ?_, ((Below.refl b wr).setCell (show b ≤ b from Nat.le_refl _) _).setCell (show b ≤ b from Nat.le_refl _) _⟩
            rw [HG.out, HLn.out, decide_eq_true HK.out, Bool.or_true]
            exact (HS.out.set1 true).set0 _ _ HEX.out
          · have hkl' : ¬ (k : Int) < (least : Int) := by omega
            have HK : Hid (¬ k < least) := hkl
            clear hkl
            go_wp2
            go_ret
            refine ⟨ret_int (by rw [HG.out]), ?_, (Below.refl b wr).setCell (show b ≤ b from Nat.le_refl _) _⟩
            rw [HG.out, HLn.out, decide_eq_false HK.out, Bool.or_false]
            exact HS.out.set0 _ _ HEX.out
      · have hkn' : ¬ (k : Int) < (N : Int) := by omega
        have HG := stop (.inr (.inl (by rw [← HNN.out]; omega)))
        clear stop
        by_cases hkl : k < least
        · have hkl' : (k : Int) < (least : Int) := by omega
          have HK : Hid (k < least) := hkl
          clear hkl
          go_wp2
          go_ret
          refine ⟨ret_int (by rw [HG.out]), ?_, ((Below.refl b wr).setCell (show b ≤ b from Nat.le_refl _) _).setCell (show b ≤ b from Nat.le_refl _) _⟩
          rw [HG.out, HLn.out, decide_eq_true HK.out, Bool.or_true]
          exact (HS.out.set1 true).set0 _ _ HEX.out
        · have hkl' : ¬ (k : Int) < (least : Int) := by omega
          have HK : Hid (¬ k < least) := hkl
          clear hkl
          go_wp2
          go_ret
          refine ⟨ret_int (by rw [HG.out]), ?_, (Below.refl b wr).setCell (show b ≤ b from Nat.le_refl _) _⟩
          rw [HG.out, HLn.out, decide_eq_false HK.out, Bool.or_false]
          exact HS.out.set0 _ _ HEX.out
    · have hkm' : ¬ (k : Int) < (most : Int) := by omega
      have HG := stop (.inl (by omega))
      clear stop
      by_cases hkl : k < least
      · have hkl' : (k : Int) < (least : Int) := by omega
        have HK : Hid (k < least) := hkl
        clear hkl
        go_wp2
        go_ret
        refine ⟨ret_int (by rw [HG.out]), ?_, ((Below.refl b wr).setCell (show b ≤ b from Nat.le_refl _) _).setCell (show b ≤ b from Nat.le_refl _) _⟩
        rw [HG.out, HLn.out, decide_eq_true HK.out, Bool.or_true]
        exact (HS.out.set1 true).set0 _ _ HEX.out
      · have hkl' : ¬ (k : Int) < (least : Int) := by omega
        have HK : Hid (¬ k < least) := hkl
        clear hkl
        go_wp2
        go_ret
        refine ⟨ret_int (by rw [HG.out]), ?_, (Below.refl b wr).setCell (show b ≤ b from Nat.le_refl _) _⟩
        rw [HG.out, HLn.out, decide_eq_false HK.out, Bool.or_false]
        exact HS.out.set0 _ _ HEX.out

end Go.Proofs.YtdkodkkbggdpbaaDoor
