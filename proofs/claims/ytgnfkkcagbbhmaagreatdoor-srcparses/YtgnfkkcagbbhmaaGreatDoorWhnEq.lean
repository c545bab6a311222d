/- Contracts: when.isLetter, when.isFace, when.cut. -/
import Derived.Test.YtgnfkkcagbbhmaaGreatDoorWhnCq
import Derived.Test.YtgnfkkcagbbhmaaGreatDoorShelfq
import Derived.Lib.OthersKept
import Derived.Lib.AppendIntMem
namespace Go.Proofs.YtgnfkkcagbbhmaaGreatDoor
open Go.RowKit
set_option linter.unusedVariables false

def ltrI (R : Int) : Bool := decide ((97 ≤ R ∧ R ≤ 122) ∨ (65 ≤ R ∧ R ≤ 90))
def faceI (R : Int) : Bool := decide ((48 ≤ R ∧ R ≤ 57) ∨ R = 58)
def letC (c : UInt8) : Bool := ltrI (c.toNat : Int)
def faceC (c : UInt8) : Bool := faceI (c.toNat : Int)

set_option maxRecDepth 100000 in
set_option maxHeartbeats 4000000 in
theorem isLetter_any (R : Int) (w : World) : Calls Tryz.prog 189 #[.int .i32 R] w fun e w' => e = .returned (.bool (ltrI R)) ∧ w' = w := by
  have HN : Hid (∀ b : Bool, (b = true ↔ ((97 ≤ R ∧ R ≤ 122) ∨ (65 ≤ R ∧ R ≤ 90))) → b = ltrI R) := fun b hb => by
    unfold ltrI
    cases b
    · exact (decide_eq_false (fun k => by have := hb.2 k; cases this)).symm
    · exact (decide_eq_true (hb.1 rfl)).symm
  go_enter Tryz.func189, Tryz.ntmps189
  by_cases a : 97 ≤ R
  · by_cases b : R ≤ 122
    · go_wp2
      all_goals (go_ret; exact ⟨congrArg (fun b => Ending.returned (.bool b)) (HN.out _ (by simp; omega)), rfl⟩)
    · by_cases c : 65 ≤ R
      · by_cases d : R ≤ 90
        · go_wp2
          all_goals (go_ret; exact ⟨congrArg (fun b => Ending.returned (.bool b)) (HN.out _ (by simp; omega)), rfl⟩)
        · go_wp2
          all_goals (go_ret; exact ⟨congrArg (fun b => Ending.returned (.bool b)) (HN.out _ (by simp; omega)), rfl⟩)
      · go_wp2
        all_goals (go_ret; exact ⟨congrArg (fun b => Ending.returned (.bool b)) (HN.out _ (by simp; omega)), rfl⟩)
  · by_cases c : 65 ≤ R
    · by_cases d : R ≤ 90
      · go_wp2
        all_goals (go_ret; exact ⟨congrArg (fun b => Ending.returned (.bool b)) (HN.out _ (by simp; omega)), rfl⟩)
      · go_wp2
        all_goals (go_ret; exact ⟨congrArg (fun b => Ending.returned (.bool b)) (HN.out _ (by simp; omega)), rfl⟩)
    · go_wp2
      all_goals (go_ret; exact ⟨congrArg (fun b => Ending.returned (.bool b)) (HN.out _ (by simp; omega)), rfl⟩)

set_option maxRecDepth 100000 in
set_option maxHeartbeats 4000000 in
theorem isFaceW_any (R : Int) (w : World) : Calls Tryz.prog 197 #[.int .i32 R] w fun e w' => e = .returned (.bool (faceI R)) ∧ w' = w := by
  have HN : Hid (∀ b : Bool, (b = true ↔ ((48 ≤ R ∧ R ≤ 57) ∨ R = 58)) → b = faceI R) := fun b hb => by
    unfold faceI
    cases b
    · exact (decide_eq_false (fun k => by have := hb.2 k; cases this)).symm
    · exact (decide_eq_true (hb.1 rfl)).symm
  go_enter Tryz.func197, Tryz.ntmps197
  by_cases a : 48 ≤ R
  · by_cases b : R ≤ 57
    · go_wp2
      all_goals (go_ret; exact ⟨congrArg (fun b => Ending.returned (.bool b)) (HN.out _ (by simp; omega)), rfl⟩)
    · by_cases c : R = 58
      · subst c
        go_wp2
        all_goals (go_ret; exact ⟨congrArg (fun b => Ending.returned (.bool b)) (HN.out _ (by simp)), rfl⟩)
      · have c1 : (R == 58) = false := beq_eq_false_iff_ne.2 c
        go_wp2
        all_goals (go_ret; exact ⟨congrArg (fun b => Ending.returned (.bool b)) (HN.out _ (by simp; omega)), rfl⟩)
  · have c1 : (R == 58) = false := beq_eq_false_iff_ne.2 (by omega)
    go_wp2
    all_goals (go_ret; exact ⟨congrArg (fun b => Ending.returned (.bool b)) (HN.out _ (by simp; omega)), rfl⟩)

theorem ret_strs {a b c d : ByteArray} (h : a = c) (g : b = d) : Ending.returned (.tuple #[.string a, .string b]) = .returned (.tuple #[.string c, .string d]) := by rw [h, g]
theorem tw_stop {p : UInt8 → Bool} {l : List UInt8} {k : Nat} (hk : k ≤ l.length) (hd : ∀ c ∈ l.take k, p c = true) (he : k = l.length ∨ ∃ x, l[k]? = some x ∧ p x = false) : l.takeWhile p = l.take k ∧ l.dropWhile p = l.drop k := by
  have e : l = l.take k ++ l.drop k := (List.take_append_drop k l).symm
  have key : ∀ (A B : List UInt8), (∀ c ∈ A, p c = true) → (B = [] ∨ ∃ x r, B = x :: r ∧ p x = false) → (A ++ B).takeWhile p = A ∧ (A ++ B).dropWhile p = B := by
    intro A
    induction A with
    | nil =>
      intro B _ hB
      rcases hB with rfl | ⟨x, r, rfl, hx⟩
      · exact ⟨rfl, rfl⟩
      · exact ⟨by simp [hx], by simp [hx]⟩
    | cons a A ih =>
      intro B hA hB
      have ha : p a = true := hA a (by simp)
      have r := ih B (fun c hc => hA c (by simp [hc])) hB
      exact ⟨by simp [ha, r.1], by simp [ha, r.2]⟩
  have r := key (l.take k) (l.drop k) hd (by
    rcases he with rfl | ⟨x, hx, hn⟩
    · exact .inl (by simp)
    · obtain ⟨hlt, hg⟩ := List.getElem?_eq_some_iff.1 hx
      exact .inr ⟨x, _, by rw [List.drop_eq_getElem_cons hlt, hg], hn⟩)
  rw [← e] at r
  exact r
theorem ext_pre (l : List UInt8) (k : Nat) (s : ByteArray) (hs : s = ⟨l.toArray⟩) : s.extract 0 k = ⟨(l.take k).toArray⟩ := by
  subst hs; apply ByteArray.ext; simp
theorem ext_suf (l : List UInt8) (k : Nat) (s : ByteArray) (hs : s = ⟨l.toArray⟩) : s.extract k s.size = ⟨(l.drop k).toArray⟩ := by
  subst hs; apply ByteArray.ext
  simp [ByteArray.size]
  exact List.take_of_length_le (by simp)

set_option maxRecDepth 100000 in
set_option maxHeartbeats 4000000 in
theorem cut_let (l : List UInt8) (w : World) (hl : l.length ≤ maxLen) :
    Calls Tryz.prog 188 #[.string ⟨l.toArray⟩, .func (.func 189) #[] #[]] w fun e w' => e = .returned (.tuple #[.string ⟨(l.takeWhile letC).toArray⟩, .string ⟨(l.dropWhile letC).toArray⟩]) ∧ Below w.heap.size w w' := by
  obtain ⟨s, hs⟩ : ∃ s : ByteArray, s = ⟨l.toArray⟩ := ⟨_, rfl⟩
  have HS : Hid (s = ⟨l.toArray⟩) := hs
  have hsz : s.size = l.length := by rw [hs]; show l.toArray.size = _; simp
  obtain ⟨TA, hTA⟩ : ∃ TA, TA = l.takeWhile letC := ⟨_, rfl⟩
  obtain ⟨TD, hTD⟩ : ∃ TD, TD = l.dropWhile letC := ⟨_, rfl⟩
  have HT : Hid (TA = l.takeWhile letC ∧ TD = l.dropWhile letC) := ⟨hTA, hTD⟩
  rw [← hTA, ← hTD, ← hs]
  clear hTA hTD hs
  have C : Hid (∀ (R : Int) (w : World), Calls Tryz.prog 189 #[.int .i32 R] w fun e w' => e = .returned (.bool (ltrI R)) ∧ w' = w) := isLetter_any
  obtain ⟨N, hN⟩ : ∃ N, N = s.size := ⟨_, rfl⟩
  have HNN : Hid (N = s.size) := hN
  go_enter Tryz.func188, Tryz.ntmps188
  go_wp2_with fail
  go_loopw [] (fun w' => ∃ pos : Nat, w' = w.iter s pos ∧ pos ≤ l.length ∧ Hid (∀ c ∈ l.take pos, letC c = true)) (fun w' => s.size - w'.iterPos w.heap.size)
  case atStart => exact ⟨0, rfl, Nat.zero_le _, fun c hc => by simp at hc⟩
  case round =>
    obtain ⟨pos, rfl, hpl, HD⟩ := hrel
    have HBI : Hid (Below w.heap.size w (w.iter s pos)) := (Below.refl _ _).alloc (Nat.le_refl _) _
    by_cases hp : pos < s.size
    · obtain ⟨x, hx⟩ : ∃ x, l[pos]? = some x := ⟨l[pos]'(by omega), List.getElem?_eq_getElem (by omega)⟩
      have hx' : s[pos]'hp = x := by
        have e : ∀ (t : ByteArray) (h : pos < t.size), t = ⟨l.toArray⟩ → t[pos]'h = x := fun t h e => by
          subst e
          show l.toArray[pos]'_ = x
          simp only [List.getElem_toArray]
          exact (List.getElem?_eq_some_iff.1 hx).2
        exact e s hp HS.out
      by_cases hq : letC x = true
      · have ha : (s[pos]'hp).toNat < 128 := by
          rw [hx']
          have := of_decide_eq_true hq
          omega
        have hnx : ∀ ty, (Instr.next (.pointer (some ⟨w.heap.size, 0, none⟩)) true ty).run Tryz.prog (w.iter s pos) = _ := fun ty => run_next_ascii w s pos ty hp ha
        rw [hx'] at hnx
        have C1 : Hid (∀ w : World, Calls Tryz.prog 189 #[.int .i32 (x.toNat : Int)] w fun e w' => e = .returned (.bool true) ∧ w' = w) := fun w => by
          have := C.out (x.toNat : Int) w
          rw [show ltrI (x.toNat : Int) = true from hq] at this
          exact this
        have HD' : Hid (∀ c ∈ l.take (pos + 1), letC c = true) := fun c hc => by
          rw [List.take_add_one, hx] at hc
          rcases List.mem_append.1 hc with hc | hc
          · exact HD.out c hc
          · simp at hc; rw [hc]; exact hq
        clear hq ha hx hx' HD
        generalize (x.toNat : Int) = X at *
        go_wp2_with fail
        refine (C1.out _).mono ?_
        rintro e w1 ⟨rfl, rfl⟩
        go_wp2_with fail
        go_roundw
        case rel => exact ⟨pos + 1, rfl, by omega, HD'⟩
        case measure => simp; omega
      · have hq' : letC x = false := by simpa using hq
        have HE : Hid (TA = l.take pos ∧ TD = l.drop pos) := by
          have r := tw_stop (p := letC) hpl HD.out (.inr ⟨x, hx, hq'⟩)
          exact ⟨HT.out.1.trans r.1, HT.out.2.trans r.2⟩
        have hqr : ltrI ((Utf8.decode s pos).1 : Int) = false := by
          by_cases ha : (s[pos]'hp).toNat < 128
          · rw [decode_ascii s pos hp ha, hx']; exact hq'
          · have := (decode_high s pos hp (by omega)).1
            exact decide_eq_false (fun k => by omega)
        have hnx : ∀ ty, (Instr.next (.pointer (some ⟨w.heap.size, 0, none⟩)) true ty).run Tryz.prog (w.iter s pos) = _ := fun ty => run_next_any w s pos ty hp
        have C1 : Hid (∀ w : World, Calls Tryz.prog 189 #[.int .i32 ((Utf8.decode s pos).1 : Int)] w fun e w' => e = .returned (.bool false) ∧ w' = w) := fun w => by
          have := C.out ((Utf8.decode s pos).1 : Int) w
          rw [hqr] at this
          exact this
        have H1 : Hid (s.extract 0 pos = ⟨TA.toArray⟩ ∧ s.extract pos l.length = ⟨TD.toArray⟩) := by
          rw [HE.out.1, HE.out.2]
          rw [← hsz]
          exact ⟨ext_pre l pos s HS.out, ext_suf l pos s HS.out⟩
        clear hq hq' hqr hx hx' HD
        generalize ((Utf8.decode s pos).1 : Int) = X at *
        go_wp2_with fail
        refine (C1.out _).mono ?_
        rintro e w1 ⟨rfl, rfl⟩
        go_wp2_with fail
        go_quiet (fail)
        go_wp2
        go_ret2
        exact ⟨ret_strs H1.out.1 H1.out.2, below_drewN ((Below.refl _ _).alloc (Nat.le_refl _) _) nq⟩
    · have hnx : ∀ ty, (Instr.next (.pointer (some ⟨w.heap.size, 0, none⟩)) true ty).run Tryz.prog (w.iter s pos) = _ := fun ty => run_next_end w s pos ty hp
      have HE : Hid (TA = l ∧ TD = []) := by
        have r := tw_stop (p := letC) hpl HD.out (.inl (by omega))
        rw [List.take_of_length_le (by omega)] at r
        exact ⟨HT.out.1.trans r.1, HT.out.2.trans (r.2.trans (List.drop_of_length_le (by omega)))⟩
      go_wp2
      go_ret2
      exact ⟨ret_strs (HS.out.trans (by rw [HE.out.1])) (by rw [HE.out.2]), HBI.out⟩

set_option maxRecDepth 100000 in
set_option maxHeartbeats 4000000 in
theorem cut_face (l : List UInt8) (w : World) (hl : l.length ≤ maxLen) :
    Calls Tryz.prog 188 #[.string ⟨l.toArray⟩, .func (.func 197) #[] #[]] w fun e w' => e = .returned (.tuple #[.string ⟨(l.takeWhile faceC).toArray⟩, .string ⟨(l.dropWhile faceC).toArray⟩]) ∧ Below w.heap.size w w' := by
  obtain ⟨s, hs⟩ : ∃ s : ByteArray, s = ⟨l.toArray⟩ := ⟨_, rfl⟩
  have HS : Hid (s = ⟨l.toArray⟩) := hs
  have hsz : s.size = l.length := by rw [hs]; show l.toArray.size = _; simp
  obtain ⟨TA, hTA⟩ : ∃ TA, TA = l.takeWhile faceC := ⟨_, rfl⟩
  obtain ⟨TD, hTD⟩ : ∃ TD, TD = l.dropWhile faceC := ⟨_, rfl⟩
  have HT : Hid (TA = l.takeWhile faceC ∧ TD = l.dropWhile faceC) := ⟨hTA, hTD⟩
  rw [← hTA, ← hTD, ← hs]
  clear hTA hTD hs
  have C : Hid (∀ (R : Int) (w : World), Calls Tryz.prog 197 #[.int .i32 R] w fun e w' => e = .returned (.bool (faceI R)) ∧ w' = w) := isFaceW_any
  obtain ⟨N, hN⟩ : ∃ N, N = s.size := ⟨_, rfl⟩
  have HNN : Hid (N = s.size) := hN
  go_enter Tryz.func188, Tryz.ntmps188
  go_wp2_with fail
  go_loopw [] (fun w' => ∃ pos : Nat, w' = w.iter s pos ∧ pos ≤ l.length ∧ Hid (∀ c ∈ l.take pos, faceC c = true)) (fun w' => s.size - w'.iterPos w.heap.size)
  case atStart => exact ⟨0, rfl, Nat.zero_le _, fun c hc => by simp at hc⟩
  case round =>
    obtain ⟨pos, rfl, hpl, HD⟩ := hrel
    have HBI : Hid (Below w.heap.size w (w.iter s pos)) := (Below.refl _ _).alloc (Nat.le_refl _) _
    by_cases hp : pos < s.size
    · obtain ⟨x, hx⟩ : ∃ x, l[pos]? = some x := ⟨l[pos]'(by omega), List.getElem?_eq_getElem (by omega)⟩
      have hx' : s[pos]'hp = x := by
        have e : ∀ (t : ByteArray) (h : pos < t.size), t = ⟨l.toArray⟩ → t[pos]'h = x := fun t h e => by
          subst e
          show l.toArray[pos]'_ = x
          simp only [List.getElem_toArray]
          exact (List.getElem?_eq_some_iff.1 hx).2
        exact e s hp HS.out
      by_cases hq : faceC x = true
      · have ha : (s[pos]'hp).toNat < 128 := by
          rw [hx']
          have := of_decide_eq_true hq
          omega
        have hnx : ∀ ty, (Instr.next (.pointer (some ⟨w.heap.size, 0, none⟩)) true ty).run Tryz.prog (w.iter s pos) = _ := fun ty => run_next_ascii w s pos ty hp ha
        rw [hx'] at hnx
        have C1 : Hid (∀ w : World, Calls Tryz.prog 197 #[.int .i32 (x.toNat : Int)] w fun e w' => e = .returned (.bool true) ∧ w' = w) := fun w => by
          have := C.out (x.toNat : Int) w
          rw [show faceI (x.toNat : Int) = true from hq] at this
          exact this
        have HD' : Hid (∀ c ∈ l.take (pos + 1), faceC c = true) := fun c hc => by
          rw [List.take_add_one, hx] at hc
          rcases List.mem_append.1 hc with hc | hc
          · exact HD.out c hc
          · simp at hc; rw [hc]; exact hq
        clear hq ha hx hx' HD
        generalize (x.toNat : Int) = X at *
        go_wp2_with fail
        refine (C1.out _).mono ?_
        rintro e w1 ⟨rfl, rfl⟩
        go_wp2_with fail
        go_roundw
        case rel => exact ⟨pos + 1, rfl, by omega, HD'⟩
        case measure => simp; omega
      · have hq' : faceC x = false := by simpa using hq
        have HE : Hid (TA = l.take pos ∧ TD = l.drop pos) := by
          have r := tw_stop (p := faceC) hpl HD.out (.inr ⟨x, hx, hq'⟩)
          exact ⟨HT.out.1.trans r.1, HT.out.2.trans r.2⟩
        have hqr : faceI ((Utf8.decode s pos).1 : Int) = false := by
          by_cases ha : (s[pos]'hp).toNat < 128
          · rw [decode_ascii s pos hp ha, hx']; exact hq'
          · have := (decode_high s pos hp (by omega)).1
            exact decide_eq_false (fun k => by omega)
        have hnx : ∀ ty, (Instr.next (.pointer (some ⟨w.heap.size, 0, none⟩)) true ty).run Tryz.prog (w.iter s pos) = _ := fun ty => run_next_any w s pos ty hp
        have C1 : Hid (∀ w : World, Calls Tryz.prog 197 #[.int .i32 ((Utf8.decode s pos).1 : Int)] w fun e w' => e = .returned (.bool false) ∧ w' = w) := fun w => by
          have := C.out ((Utf8.decode s pos).1 : Int) w
          rw [hqr] at this
          exact this
        have H1 : Hid (s.extract 0 pos = ⟨TA.toArray⟩ ∧ s.extract pos l.length = ⟨TD.toArray⟩) := by
          rw [HE.out.1, HE.out.2]
          rw [← hsz]
          exact ⟨ext_pre l pos s HS.out, ext_suf l pos s HS.out⟩
        clear hq hq' hqr hx hx' HD
        generalize ((Utf8.decode s pos).1 : Int) = X at *
        go_wp2_with fail
        refine (C1.out _).mono ?_
        rintro e w1 ⟨rfl, rfl⟩
        go_wp2_with fail
        go_quiet (fail)
        go_wp2
        go_ret2
        exact ⟨ret_strs H1.out.1 H1.out.2, below_drewN ((Below.refl _ _).alloc (Nat.le_refl _) _) nq⟩
    · have hnx : ∀ ty, (Instr.next (.pointer (some ⟨w.heap.size, 0, none⟩)) true ty).run Tryz.prog (w.iter s pos) = _ := fun ty => run_next_end w s pos ty hp
      have HE : Hid (TA = l ∧ TD = []) := by
        have r := tw_stop (p := faceC) hpl HD.out (.inl (by omega))
        rw [List.take_of_length_le (by omega)] at r
        exact ⟨HT.out.1.trans r.1, HT.out.2.trans (r.2.trans (List.drop_of_length_le (by omega)))⟩
      go_wp2
      go_ret2
      exact ⟨ret_strs (HS.out.trans (by rw [HE.out.1])) (by rw [HE.out.2]), HBI.out⟩

end Go.Proofs.YtgnfkkcagbbhmaaGreatDoor
