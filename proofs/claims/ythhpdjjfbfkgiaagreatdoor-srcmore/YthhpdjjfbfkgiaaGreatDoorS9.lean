import Derived.Test.YthhpdjjfbfkgiaaGreatDoorS8
import Derived.Test.YthhpdjjfbfkgiaaGreatDoorS7
import Derived.Lib.OthersKept
import Derived.Lib.AppendIntMem
import Derived.Test.YthhpdjjfbfkgiaaGreatDoorS3
import Derived.Test.YthhpdjjfbfkgiaaGreatDoorProg
import Derived.WalkKit
import Derived.ProofKit
import Derived.Laws.IdiomStrings
import Derived.Laws.RangeAny
import Derived.Deep.LoopGhost
import Derived.Deep.RegionWith
import Derived.Deep.DeepMust
import Derived.Deep.RegionHeld3
import Derived.Below
/- Contracts: when.isLetter, when.isFace, when.cut. -/
namespace Go.Proofs.YthhpdjjfbfkgiaaGreatDoor
open Go.RowKit
set_option linter.unusedVariables false

def ltrI (R : Int) : Bool := decide ((97 ≤ R ∧ R ≤ 122) ∨ (65 ≤ R ∧ R ≤ 90))
def faceI (R : Int) : Bool := decide ((48 ≤ R ∧ R ≤ 57) ∨ R = 58)
def letC (c : UInt8) : Bool := ltrI (c.toNat : Int)
def faceC (c : UInt8) : Bool := faceI (c.toNat : Int)

set_option maxRecDepth 100000 in
set_option maxHeartbeats 4000000 in
theorem isLetter_any (R : Int) (w : World) : Calls Tryz.prog 124 #[.int .i32 R] w fun e w' => e = .returned (.bool (ltrI R)) ∧ w' = w := by
  have HN : Hid (∀ b : Bool, (b = true ↔ ((97 ≤ R ∧ R ≤ 122) ∨ (65 ≤ R ∧ R ≤ 90))) → b = ltrI R) := fun b hb => by
    unfold ltrI
    cases b
    · exact (decide_eq_false (fun k => by have := hb.2 k; cases this)).symm
    · exact (decide_eq_true (hb.1 rfl)).symm
  go_enter Tryz.func124, Tryz.ntmps124
  by_cases a : 97 ≤ R
  · by_cases b : R ≤ 122
    · go_wp2
      all_goals (go_ret; exact ⟨congrArg (fun b => Ending.returned (.bool b)) (HN.out _ (by simp; omega)), rfl⟩)
    · by_cases c : 65 ≤ R
      · by_cases d : R ≤ 90
        · go_wp2
          all_goals (go_ret; exact ⟨congrArg (fun b => Ending.returned (.bool b)) (HN.out _ (by simp; omega)), rfl⟩)
        · go_wp2
          all_goals (go_ret; exact ⟨congrArg (fun b => Ending.returned (.bool b)) (HN.out _ (by simp; omega)), rfl⟩)
      · go_wp2
        all_goals (go_ret; exact ⟨congrArg (fun b => Ending.returned (.bool b)) (HN.out _ (by simp; omega)), rfl⟩)
  · by_cases c : 65 ≤ R
    · by_cases d : R ≤ 90
      · go_wp2
        all_goals (go_ret; exact ⟨congrArg (fun b => Ending.returned (.bool b)) (HN.out _ (by simp; omega)), rfl⟩)
      · go_wp2
        all_goals (go_ret; exact ⟨congrArg (fun b => Ending.returned (.bool b)) (HN.out _ (by simp; omega)), rfl⟩)
    · go_wp2
      all_goals (go_ret; exact ⟨congrArg (fun b => Ending.returned (.bool b)) (HN.out _ (by simp; omega)), rfl⟩)

set_option maxRecDepth 100000 in
set_option maxHeartbeats 4000000 in
theorem isFaceW_any (R : Int) (w : World) : Calls Tryz.prog 132 #[.int .i32 R] w fun e w' => e = .returned (.bool (faceI R)) ∧ w' = w := by
  have HN : Hid (∀ b : Bool, (b = true ↔ ((48 ≤ R ∧ R ≤ 57) ∨ R = 58)) → b = faceI R) := fun b hb => by
    unfold faceI
    cases b
    · exact (decide_eq_false (fun k => by have := hb.2 k; cases this)).symm
    · exact (decide_eq_true (hb.1 rfl)).symm
  go_enter Tryz.func132, Tryz.ntmps132
  by_cases a : 48 ≤ R
  · by_cases b : R ≤ 57
    · go_wp2
      all_goals (go_ret; exact ⟨congrArg (fun b => Ending.returned (.bool b)) (HN.out _ (by simp; omega)), rfl⟩)
    · by_cases c : R = 58
      · subst c
        go_wp2
        all_goals (go_ret; exact ⟨congrArg (fun b => Ending.returned (.bool b)) (HN.out _ (by simp)), rfl⟩)
      · have c1 : (R == 58) = false := beq_eq_false_iff_ne.2 c
        go_wp2
        all_goals (go_ret; exact ⟨congrArg (fun b => Ending.returned (.bool b)) (HN.out _ (by simp; omega)), rfl⟩)
  · have c1 : (R == 58) = false := beq_eq_false_iff_ne.2 (by omega)
    go_wp2
    all_goals (go_ret; exact ⟨congrArg (fun b => Ending.returned (.bool b)) (HN.out _ (by simp; omega)), rfl⟩)

theorem ret_strs {a b c d : ByteArray} (h : a = c) (g : b = d) : Ending.returned (.tuple #[.string a, .string b]) = .returned (.tuple #[.string c, .string d]) := by rw [h, g]
theorem tw_stop {p : UInt8 → Bool} {l : List UInt8} {k : Nat} (hk : k ≤ l.length) (hd : ∀ c ∈ l.take k, p c = true) (he : k = l.length ∨ ∃ x, l[k]? = some x ∧ p x = false) : l.takeWhile p = l.take k ∧ l.dropWhile p = l.drop k := by
  have e : l = l.take k ++ l.drop k := (List.take_append_drop k l).symm
  have key : ∀ (A B : List UInt8), (∀ c ∈ A, p c = true) → (B = [] ∨ ∃ x r, B = x :: r ∧ p x = false) → (A ++ B).takeWhile p = A ∧ (A ++ B).dropWhile p = B := by
    intro A
    induction A with
    | nil =>
      intro B _ hB
      rcases hB with rfl | ⟨x, r, rfl, hx⟩
      · exact ⟨rfl, rfl⟩
      · exact ⟨by simp [hx], by simp [hx]⟩
    | cons a A ih =>
      intro B hA hB
      have ha : p a = true := hA a (by simp)
      have r := ih B (fun c hc => hA c (by simp [hc])) hB
      exact ⟨by simp [ha, r.1], by simp [ha, r.2]⟩
  have r := key (l.take k) (l.drop k) hd (by
    rcases he with rfl | ⟨x, hx, hn⟩
    · exact .inl (by simp)
    · obtain ⟨hlt, hg⟩ := List.getElem?_eq_some_iff.1 hx
      exact .inr ⟨x, _, by rw [List.drop_eq_getElem_cons hlt, hg], hn⟩)
  rw [← e] at r
  exact r
theorem ext_pre (l : List UInt8) (k : Nat) (s : ByteArray) (hs : s = ⟨l.toArray⟩) : s.extract 0 k = ⟨(l.take k).toArray⟩ := by
  subst hs; apply ByteArray.ext; simp
theorem ext_suf (l : List UInt8) (k : Nat) (s : ByteArray) (hs : s = ⟨l.toArray⟩) : s.extract k s.size = ⟨(l.drop k).toArray⟩ := by
  subst hs; apply ByteArray.ext
  simp [ByteArray.size]
  exact List.take_of_length_le (by simp)

set_option maxRecDepth 100000 in
set_option maxHeartbeats 4000000 in
theorem cut_let (l : List UInt8) (w : World) (hl : l.length ≤ maxLen) :
    Calls Tryz.prog 123 #[.string ⟨l.toArray⟩, .func (.func 124) #[] #[]] w fun e w' => e = .returned (.tuple #[.string ⟨(l.takeWhile letC).toArray⟩, .string ⟨(l.dropWhile letC).toArray⟩]) ∧ Below w.heap.size w w' := by
  obtain ⟨s, hs⟩ : ∃ s : ByteArray, s = ⟨l.toArray⟩ := ⟨_, rfl⟩
  have HS : Hid (s = ⟨l.toArray⟩) := hs
  have hsz : s.size = l.length := by rw [hs]; show l.toArray.size = _; simp
  obtain ⟨TA, hTA⟩ : ∃ TA, TA = l.takeWhile letC := ⟨_, rfl⟩
  obtain ⟨TD, hTD⟩ : ∃ TD, TD = l.dropWhile letC := ⟨_, rfl⟩
  have HT : Hid (TA = l.takeWhile letC ∧ TD = l.dropWhile letC) := ⟨hTA, hTD⟩
  rw [← hTA, ← hTD, ← hs]
  clear hTA hTD hs
  have C : Hid (∀ (R : Int) (w : World), Calls Tryz.prog 124 #[.int .i32 R] w fun e w' => e = .returned (.bool (ltrI R)) ∧ w' = w) := isLetter_any
  obtain ⟨N, hN⟩ : ∃ N, N = s.size := ⟨_, rfl⟩
  have HNN : Hid (N = s.size) := hN
  go_enter Tryz.func123, Tryz.ntmps123
  go_wp2_with fail
  go_loopw [] (fun w' => ∃ pos : Nat, w' = w.iter s pos ∧ pos ≤ l.length ∧ Hid (∀ c ∈ l.take pos, letC c = true)) (fun w' => s.size - w'.iterPos w.heap.size)
  case atStart => exact ⟨0, rfl, Nat.zero_le _, fun c hc => by simp at hc⟩
  case round =>
    obtain ⟨pos, rfl, hpl, HD⟩ := hrel
    have HBI : Hid (Below w.heap.size w (w.iter s pos)) := (Below.refl _ _).alloc (Nat.le_refl _) _
    by_cases hp : pos < s.size
    · obtain ⟨x, hx⟩ : ∃ x, l[pos]? = some x := ⟨l[pos]'(by omega), List.getElem?_eq_getElem (by omega)⟩
      have hx' : s[pos]'hp = x := by
        have e : ∀ (t : ByteArray) (h : pos < t.size), t = ⟨l.toArray⟩ → t[pos]'h = x := fun t h e => by
          subst e
          show l.toArray[pos]'_ = x
          simp only [List.getElem_toArray]
          exact (List.getElem?_eq_some_iff.1 hx).2
        exact e s hp HS.out
      by_cases hq : letC x = true
      · have ha : (s[pos]'hp).toNat < 128 := by
          rw [hx']
          have := of_decide_eq_true hq
          omega
        have hnx : ∀ ty, (Instr.next (.pointer (some ⟨w.heap.size, 0, none⟩)) true ty).run Tryz.prog (w.iter s pos) = _ := fun ty => run_next_ascii w s pos ty hp ha
        rw [hx'] at hnx
        have C1 : Hid (∀ w : World, Calls Tryz.prog 124 #[.int .i32 (x.toNat : Int)] w fun e w' => e = .returned (.bool true) ∧ w' = w) := fun w => by
          have := C.out (x.toNat : Int) w
          rw [show ltrI (x.toNat : Int) = true from hq] at this
          exact this
        have HD' : Hid (∀ c ∈ l.take (pos + 1), letC c = true) := fun c hc => by
          rw [List.take_add_one, hx] at hc
          rcases List.mem_append.1 hc with hc | hc
          · exact HD.out c hc
          · simp at hc; rw [hc]; exact hq
        clear hq ha hx hx' HD
        generalize (x.toNat : Int) = X at *
        go_wp2_with fail
        refine (C1.out _).mono ?_
        rintro e w1 ⟨rfl, rfl⟩
        go_wp2_with fail
        go_roundw
        case rel => exact ⟨pos + 1, rfl, by omega, HD'⟩
        case measure => simp; omega
      · have hq' : letC x = false := by simpa using hq
        have HE : Hid (TA = l.take pos ∧ TD = l.drop pos) := by
          have r := tw_stop (p := letC) hpl HD.out (.inr ⟨x, hx, hq'⟩)
          exact ⟨HT.out.1.trans r.1, HT.out.2.trans r.2⟩
        have hqr : ltrI ((Utf8.decode s pos).1 : Int) = false := by
          by_cases ha : (s[pos]'hp).toNat < 128
          · rw [decode_ascii s pos hp ha, hx']; exact hq'
          · have := (decode_high s pos hp (by omega)).1
            exact decide_eq_false (fun k => by omega)
        have hnx : ∀ ty, (Instr.next (.pointer (some ⟨w.heap.size, 0, none⟩)) true ty).run Tryz.prog (w.iter s pos) = _ := fun ty => run_next_any w s pos ty hp
        have C1 : Hid (∀ w : World, Calls Tryz.prog 124 #[.int .i32 ((Utf8.decode s pos).1 : Int)] w fun e w' => e = .returned (.bool false) ∧ w' = w) := fun w => by
          have := C.out ((Utf8.decode s pos).1 : Int) w
          rw [hqr] at this
          exact this
        have H1 : Hid (s.extract 0 pos = ⟨TA.toArray⟩ ∧ s.extract pos l.length = ⟨TD.toArray⟩) := by
          rw [HE.out.1, HE.out.2]
          rw [← hsz]
          exact ⟨ext_pre l pos s HS.out, ext_suf l pos s HS.out⟩
        clear hq hq' hqr hx hx' HD
        generalize ((Utf8.decode s pos).1 : Int) = X at *
        go_wp2_with fail
        refine (C1.out _).mono ?_
        rintro e w1 ⟨rfl, rfl⟩
        go_wp2_with fail
        go_quiet (fail)
        go_wp2
        go_ret2
        exact ⟨ret_strs H1.out.1 H1.out.2, below_drewN ((Below.refl _ _).alloc (Nat.le_refl _) _) nq⟩
    · have hnx : ∀ ty, (Instr.next (.pointer (some ⟨w.heap.size, 0, none⟩)) true ty).run Tryz.prog (w.iter s pos) = _ := fun ty => run_next_end w s pos ty hp
      have HE : Hid (TA = l ∧ TD = []) := by
        have r := tw_stop (p := letC) hpl HD.out (.inl (by omega))
        rw [List.take_of_length_le (by omega)] at r
        exact ⟨HT.out.1.trans r.1, HT.out.2.trans (r.2.trans (List.drop_of_length_le (by omega)))⟩
      go_wp2
      go_ret2
      exact ⟨ret_strs (HS.out.trans (by rw [HE.out.1])) (by rw [HE.out.2]), HBI.out⟩

set_option maxRecDepth 100000 in
set_option maxHeartbeats 4000000 in
theorem cut_face (l : List UInt8) (w : World) (hl : l.length ≤ maxLen) :
    Calls Tryz.prog 123 #[.string ⟨l.toArray⟩, .func (.func 132) #[] #[]] w fun e w' => e = .returned (.tuple #[.string ⟨(l.takeWhile faceC).toArray⟩, .string ⟨(l.dropWhile faceC).toArray⟩]) ∧ Below w.heap.size w w' := by
  obtain ⟨s, hs⟩ : ∃ s : ByteArray, s = ⟨l.toArray⟩ := ⟨_, rfl⟩
  have HS : Hid (s = ⟨l.toArray⟩) := hs
  have hsz : s.size = l.length := by rw [hs]; show l.toArray.size = _; simp
  obtain ⟨TA, hTA⟩ : ∃ TA, TA = l.takeWhile faceC := ⟨_, rfl⟩
  obtain ⟨TD, hTD⟩ : ∃ TD, TD = l.dropWhile faceC := ⟨_, rfl⟩
  have HT : Hid (TA = l.takeWhile faceC ∧ TD = l.dropWhile faceC) := ⟨hTA, hTD⟩
  rw [← hTA, ← hTD, ← hs]
  clear hTA hTD hs
  have C : Hid (∀ (R : Int) (w : World), Calls Tryz.prog 132 #[.int .i32 R] w fun e w' => e = .returned (.bool (faceI R)) ∧ w' = w) := isFaceW_any
  obtain ⟨N, hN⟩ : ∃ N, N = s.size := ⟨_, rfl⟩
  have HNN : Hid (N = s.size) := hN
  go_enter Tryz.func123, Tryz.ntmps123
  go_wp2_with fail
  go_loopw [] (fun w' => ∃ pos : Nat, w' = w.iter s pos ∧ pos ≤ l.length ∧ Hid (∀ c ∈ l.take pos, faceC c = true)) (fun w' => s.size - w'.iterPos w.heap.size)
  case atStart => exact ⟨0, rfl, Nat.zero_le _, fun c hc => by simp at hc⟩
  case round =>
    obtain ⟨pos, rfl, hpl, HD⟩ := hrel
    have HBI : Hid (Below w.heap.size w (w.iter s pos)) := (Below.refl _ _).alloc (Nat.le_refl _) _
    by_cases hp : pos < s.size
    · obtain ⟨x, hx⟩ : ∃ x, l[pos]? = some x := ⟨l[pos]'(by omega), List.getElem?_eq_getElem (by omega)⟩
      have hx' : s[pos]'hp = x := by
        have e : ∀ (t : ByteArray) (h : pos < t.size), t = ⟨l.toArray⟩ → t[pos]'h = x := fun t h e => by
          subst e
          show l.toArray[pos]'_ = x
          simp only [List.getElem_toArray]
          exact (List.getElem?_eq_some_iff.1 hx).2
        exact e s hp HS.out
      by_cases hq : faceC x = true
      · have ha : (s[pos]'hp).toNat < 128 := by
          rw [hx']
          have := of_decide_eq_true hq
          omega
        have hnx : ∀ ty, (Instr.next (.pointer (some ⟨w.heap.size, 0, none⟩)) true ty).run Tryz.prog (w.iter s pos) = _ := fun ty => run_next_ascii w s pos ty hp ha
        rw [hx'] at hnx
        have C1 : Hid (∀ w : World, Calls Tryz.prog 132 #[.int .i32 (x.toNat : Int)] w fun e w' => e = .returned (.bool true) ∧ w' = w) := fun w => by
          have := C.out (x.toNat : Int) w
          rw [show faceI (x.toNat : Int) = true from hq] at this
          exact this
        have HD' : Hid (∀ c ∈ l.take (pos + 1), faceC c = true) := fun c hc => by
          rw [List.take_add_one, hx] at hc
          rcases List.mem_append.1 hc with hc | hc
          · exact HD.out c hc
          · simp at hc; rw [hc]; exact hq
        clear hq ha hx hx' HD
        generalize (x.toNat : Int) = X at *
        go_wp2_with fail
        refine (C1.out _).mono ?_
        rintro e w1 ⟨rfl, rfl⟩
        go_wp2_with fail
        go_roundw
        case rel => exact ⟨pos + 1, rfl, by omega, HD'⟩
        case measure => simp; omega
      · have hq' : faceC x = false := by simpa using hq
        have HE : Hid (TA = l.take pos ∧ TD = l.drop pos) := by
          have r := tw_stop (p := faceC) hpl HD.out (.inr ⟨x, hx, hq'⟩)
          exact ⟨HT.out.1.trans r.1, HT.out.2.trans r.2⟩
        have hqr : faceI ((Utf8.decode s pos).1 : Int) = false := by
          by_cases ha : (s[pos]'hp).toNat < 128
          · rw [decode_ascii s pos hp ha, hx']; exact hq'
          · have := (decode_high s pos hp (by omega)).1
            exact decide_eq_false (fun k => by omega)
        have hnx : ∀ ty, (Instr.next (.pointer (some ⟨w.heap.size, 0, none⟩)) true ty).run Tryz.prog (w.iter s pos) = _ := fun ty => run_next_any w s pos ty hp
        have C1 : Hid (∀ w : World, Calls Tryz.prog 132 #[.int .i32 ((Utf8.decode s pos).1 : Int)] w fun e w' => e = .returned (.bool false) ∧ w' = w) := fun w => by
          have := C.out ((Utf8.decode s pos).1 : Int) w
          rw [hqr] at this
          exact this
        have H1 : Hid (s.extract 0 pos = ⟨TA.toArray⟩ ∧ s.extract pos l.length = ⟨TD.toArray⟩) := by
          rw [HE.out.1, HE.out.2]
          rw [← hsz]
          exact ⟨ext_pre l pos s HS.out, ext_suf l pos s HS.out⟩
        clear hq hq' hqr hx hx' HD
        generalize ((Utf8.decode s pos).1 : Int) = X at *
        go_wp2_with fail
        refine (C1.out _).mono ?_
        rintro e w1 ⟨rfl, rfl⟩
        go_wp2_with fail
        go_quiet (fail)
        go_wp2
        go_ret2
        exact ⟨ret_strs H1.out.1 H1.out.2, below_drewN ((Below.refl _ _).alloc (Nat.le_refl _) _) nq⟩
    · have hnx : ∀ ty, (Instr.next (.pointer (some ⟨w.heap.size, 0, none⟩)) true ty).run Tryz.prog (w.iter s pos) = _ := fun ty => run_next_end w s pos ty hp
      have HE : Hid (TA = l ∧ TD = []) := by
        have r := tw_stop (p := faceC) hpl HD.out (.inl (by omega))
        rw [List.take_of_length_le (by omega)] at r
        exact ⟨HT.out.1.trans r.1, HT.out.2.trans (r.2.trans (List.drop_of_length_le (by omega)))⟩
      go_wp2
      go_ret2
      exact ⟨ret_strs (HS.out.trans (by rw [HE.out.1])) (by rw [HE.out.2]), HBI.out⟩

end Go.Proofs.YthhpdjjfbfkgiaaGreatDoor
/- Plain mathematics of small letters. -/
namespace Go.Proofs.YthhpdjjfbfkgiaaGreatDoor.Wrd
set_option linter.unusedVariables false

def lowC (c : UInt8) : UInt8 := if 65 ≤ c.toNat ∧ c.toNat ≤ 90 then c + 32 else c
def lowB (s : ByteArray) : ByteArray := ⟨s.data.map lowC⟩
/-- small letters up to a place. -/
def lowTo (s : ByteArray) (p : Nat) : List UInt8 := (s.data.toList.take p).map lowC ++ s.data.toList.drop p

theorem sz (s : ByteArray) : s.data.toList.length = s.size := Array.length_toList
theorem low32 (c : UInt8) (h : 65 ≤ c.toNat ∧ c.toNat ≤ 90) : (c + 32).toNat = c.toNat + 32 := by rw [UInt8.toNat_add]; simp; omega
theorem lowTo_get (s : ByteArray) (p j : Nat) : (lowTo s p)[j]? = (s.data.toList[j]?).map (fun c => if j < p then lowC c else c) := by
  unfold lowTo
  by_cases hj : j < s.data.toList.length
  · by_cases h : j < p
    · rw [List.getElem?_append_left (by simp at hj ⊢; omega)]
      simp [h]
    · have hl : ((s.data.toList.take p).map lowC).length = p := by rw [List.length_map, List.length_take]; omega
      rw [List.getElem?_append_right (by rw [hl]; omega), hl, List.getElem?_drop, show p + (j - p) = j by omega]
      simp [h]
  · rw [List.getElem?_eq_none (by simp only [List.length_append, List.length_map, List.length_take, List.length_drop]; omega), List.getElem?_eq_none (by omega)]
    rfl
theorem lowTo_length (s : ByteArray) (p : Nat) : (lowTo s p).length = s.size := by
  unfold lowTo; simp only [List.length_append, List.length_map, List.length_take, List.length_drop, Array.length_toList]; show _ = s.data.size; omega
theorem lowTo_zero (s : ByteArray) : lowTo s 0 = s.data.toList := by simp [lowTo]
theorem lowTo_all (s : ByteArray) (p : Nat) (h : s.size ≤ p) : lowTo s p = (lowB s).data.toList := by
  unfold lowTo lowB
  rw [List.take_of_length_le (by rw [sz]; exact h), List.drop_of_length_le (by rw [sz]; exact h)]
  simp
theorem lowTo_end (s : ByteArray) (p : Nat) (h : ¬ p < s.size) : (⟨(lowTo s p).toArray⟩ : ByteArray) = lowB s := by
  rw [lowTo_all s p (by omega)]

theorem get_lt (s : ByteArray) (k : Nat) (h : k < s.size) : s.get! k = s[k]'h := by
  show s.data[k]! = _
  rw [getElem!_pos s.data k h]
  rfl
theorem bt_get (s : ByteArray) (j : Nat) (h : j < s.size) : s.data.toList[j]? = some (s[j]'h) ∧ (s[j]'h).toNat = bt s j := by
  constructor
  · rw [List.getElem?_eq_getElem (by rw [sz]; exact h)]; rfl
  · unfold bt; rw [get_lt s j h]

/-- a rune that is none of A to Z changes nothing. -/
theorem lowTo_skip (s : ByteArray) (pos : Nat) (h : pos < s.size) (hR : ¬ (65 ≤ (Utf8.decode s pos).1 ∧ (Utf8.decode s pos).1 ≤ 90)) :
    lowTo s (pos + (Utf8.decode s pos).2) = lowTo s pos := by
  have key : ∀ j, pos ≤ j → j < pos + (Utf8.decode s pos).2 → j < s.size → ¬ (65 ≤ bt s j ∧ bt s j ≤ 90) := by
    intro j a b hj
    rcases dec_shape s pos h with ⟨c, e⟩ | ⟨c, e⟩ | ⟨c, _, _, _, _, d, _⟩
    · rw [e] at hR b
      obtain rfl : j = pos := by simp only at b; omega
      exact hR
    · rw [e] at b
      obtain rfl : j = pos := by simp only at b; omega
      omega
    · by_cases q : j = pos
      · subst q; omega
      · have := d (j - pos) (by omega) (by omega)
        rw [show pos + (j - pos) = j by omega] at this
        omega
  apply List.ext_getElem?
  intro j
  rw [lowTo_get, lowTo_get]
  by_cases hj : j < s.size
  · obtain ⟨e1, e2⟩ := bt_get s j hj
    rw [e1]
    simp only [Option.map_some, Option.some.injEq]
    by_cases c1 : j < pos
    · rw [if_pos c1, if_pos (by omega)]
    · rw [if_neg c1]
      by_cases c2 : j < pos + (Utf8.decode s pos).2
      · rw [if_pos c2]
        unfold lowC
        rw [if_neg (by rw [e2]; exact key j (by omega) c2 hj)]
      · rw [if_neg c2]
  · rw [List.getElem?_eq_none (by rw [sz]; omega)]
    rfl
/-- A to Z becomes its small letter. -/
theorem lowTo_put (s : ByteArray) (pos : Nat) (h : pos < s.size) (hR : 65 ≤ (Utf8.decode s pos).1 ∧ (Utf8.decode s pos).1 ≤ 90) :
    (Utf8.decode s pos) = (bt s pos, 1) ∧ (lowTo s pos)[pos]? = some (s[pos]'h) ∧ lowTo s (pos + (Utf8.decode s pos).2) = (lowTo s pos).set pos (s[pos]'h + 32) ∧ (s[pos]'h + 32).toNat = (Utf8.decode s pos).1 + 32 ∧ (s[pos]'h).toNat = (Utf8.decode s pos).1 := by
  obtain ⟨e1, e2⟩ := bt_get s pos h
  rcases dec_shape s pos h with ⟨c, e⟩ | ⟨c, e⟩ | ⟨c, _, _, _, _, d, _⟩
  · have hb : 65 ≤ (s[pos]'h).toNat ∧ (s[pos]'h).toNat ≤ 90 := by rw [e] at hR; simp only at hR; omega
    refine ⟨e, by rw [lowTo_get, e1]; simp, ?_, by rw [low32 _ hb, e, e2], by rw [e, e2]⟩
    apply List.ext_getElem?
    intro j
    rw [e, List.getElem?_set, lowTo_get, lowTo_get]
    by_cases q : pos = j
    · subst q
      rw [if_pos rfl, if_pos (by rw [lowTo_length]; exact h), e1]
      simp only [Option.map_some, Option.some.injEq]
      rw [if_pos (by omega)]
      unfold lowC
      rw [if_pos hb]
    · rw [if_neg q]
      have : (j < pos + 1) = (j < pos) := propext ⟨fun _ => by omega, fun _ => by omega⟩
      simp only [this]
  · rw [e] at hR; simp only at hR; omega
  · omega

end Go.Proofs.YthhpdjjfbfkgiaaGreatDoor.Wrd
/- Plain mathematics of the document's own way to part a text: bytes of a rune, then parts by bytes; that it is the program's. -/
namespace Go.Proofs.YthhpdjjfbfkgiaaGreatDoor.Wrd
set_option linter.unusedVariables false

end Go.Proofs.YthhpdjjfbfkgiaaGreatDoor.Wrd
/- Plain mathematics: the document's way to part a text and the program's way give the same parts. -/
namespace Go.Proofs.YthhpdjjfbfkgiaaGreatDoor.Wrd
set_option linter.unusedVariables false

def digitN (c : Nat) : Bool := decide (48 ≤ c) && decide (c ≤ 57)
end Go.Proofs.YthhpdjjfbfkgiaaGreatDoor.Wrd
/- Plain mathematics: all parts of a text, each at its place, and blanks, are the text. -/
namespace Go.Proofs.YthhpdjjfbfkgiaaGreatDoor.Wrd
set_option linter.unusedVariables false

/-! ### two texts with a blank between them -/
end Go.Proofs.YthhpdjjfbfkgiaaGreatDoor.Wrd
/- Plain mathematics of digits as a number. -/
namespace Go.Proofs.YthhpdjjfbfkgiaaGreatDoor.Wrd
set_option linter.unusedVariables false

/-- digits alone, from a place on. -/
def digF (s : ByteArray) : Nat → Nat → Bool
  | 0, _ => true
  | f + 1, i => if i < s.size then digitN (bt s i) && digF s f (i + 1) else true
theorem digF_step {s : ByteArray} {f i : Nat} (h : i < s.size) : digF s (f + 1) i = (digitN (bt s i) && digF s f (i + 1)) := by rw [digF, if_pos h]
theorem digF_end (s : ByteArray) (f i : Nat) (h : ¬ i < s.size) : digF s f i = true := by
  cases f with
  | zero => rfl
  | succ f => rw [digF, if_neg h]
def digs (s : ByteArray) : Bool := digF s s.size 0
theorem digF_all (s : ByteArray) : ∀ (f i : Nat), s.size ≤ i + f → digF s f i = true → ∀ j, i ≤ j → j < s.size → digitN (bt s j) = true
  | 0, i, hf, h, j, h1, h2 => by omega
  | f + 1, i, hf, h, j, h1, h2 => by
    rw [digF_step (by omega), Bool.and_eq_true] at h
    by_cases c : j = i
    · subst c; exact h.1
    · exact digF_all s f (i + 1) (by omega) h.2 j (by omega) h2
theorem digs_at {s : ByteArray} (h : digs s = true) (j : Nat) (hj : j < s.size) : digitN (bt s j) = true := digF_all s s.size 0 (by omega) h j (by omega) hj
theorem digit_iff (c : Nat) : digitN c = true ↔ (48 ≤ c ∧ c ≤ 57) := by simp [digitN]

/-- what the first digits tell. -/
def valTo (s : ByteArray) : Nat → Int
  | 0 => 0
  | i + 1 => valTo s i * 10 + ((bt s i : Int) - 48)
theorem valTo_nonneg {s : ByteArray} (h : digs s = true) : ∀ i, i ≤ s.size → 0 ≤ valTo s i
  | 0, _ => Int.le_refl _
  | i + 1, hi => by
    have a := valTo_nonneg h i (by omega)
    have b := (digit_iff _).1 (digs_at h i (by omega))
    rw [valTo]; omega
theorem valTo_mono {s : ByteArray} (h : digs s = true) (i : Nat) : ∀ n, i + n ≤ s.size → valTo s i ≤ valTo s (i + n)
  | 0, _ => Int.le_refl _
  | n + 1, hi => by
    have a := valTo_mono h i n (by omega)
    have c := valTo_nonneg h (i + n) (by omega)
    have b := (digit_iff _).1 (digs_at h (i + n) (by omega))
    rw [show i + (n + 1) = (i + n) + 1 by omega, valTo]; omega
def lastN : Int := 9223372036854775807
/-- the number, or 0; the error. -/
def numV (s : ByteArray) : Int := if digs s = true ∧ s.size ≠ 0 ∧ valTo s s.size ≤ lastN then valTo s s.size else 0
def numE (s : ByteArray) : Int := if digs s = true ∧ s.size ≠ 0 then (if valTo s s.size ≤ lastN then 0 else 10) else 13
theorem num_lit {s : ByteArray} (h : ¬ (digs s = true ∧ s.size ≠ 0)) : numV s = 0 ∧ numE s = 13 := by
  unfold numV numE; rw [if_neg (fun q => h ⟨q.1, q.2.1⟩), if_neg h]; exact ⟨rfl, rfl⟩
theorem num_big {s : ByteArray} (h : digs s = true) (h0 : s.size ≠ 0) (i : Nat) (hi : i ≤ s.size) (hb : lastN < valTo s i) : numV s = 0 ∧ numE s = 10 := by
  have := valTo_mono h i (s.size - i) (by omega)
  rw [show i + (s.size - i) = s.size by omega] at this
  unfold numV numE; rw [if_neg (fun q => by have := q.2.2; omega), if_pos ⟨h, h0⟩, if_neg (by omega)]; exact ⟨rfl, rfl⟩
theorem num_ok {s : ByteArray} (h : digs s = true) (h0 : s.size ≠ 0) (hb : valTo s s.size ≤ lastN) : numV s = valTo s s.size ∧ numE s = 0 := by
  unfold numV numE; rw [if_pos ⟨h, h0, hb⟩, if_pos ⟨h, h0⟩, if_pos hb]; exact ⟨rfl, rfl⟩
/-- a rune is a digit just if the byte is. -/
theorem rune_digit (s : ByteArray) (pos : Nat) (h : pos < s.size) : ((48 ≤ (Utf8.decode s pos).1 ∧ (Utf8.decode s pos).1 ≤ 57) ↔ digitN (bt s pos) = true) ∧ (digitN (bt s pos) = true → Utf8.decode s pos = (bt s pos, 1)) := by
  rw [digit_iff]
  rcases dec_shape s pos h with ⟨c, e⟩ | ⟨c, e⟩ | ⟨c, _, _, _, d, _⟩
  · rw [e]; exact ⟨Iff.rfl, fun _ => rfl⟩
  · rw [e]; exact ⟨by simp only; omega, fun q => by omega⟩
  · exact ⟨by omega, fun q => by omega⟩

/-! ### where a text stands among others -/
/-- the first place whose text is as asked; -1: none. -/
def findF (P : ByteArray → Bool) : Nat → List ByteArray → Int
  | _, [] => -1
  | i, t :: l => if P t = true then (i : Int) else findF P (i + 1) l
theorem findF_step {P : ByteArray → Bool} {l : List ByteArray} {i : Nat} {t : ByteArray} (h : l[i]? = some t) : findF P i (l.drop i) = if P t = true then (i : Int) else findF P (i + 1) (l.drop (i + 1)) := by
  obtain ⟨hl, he⟩ := List.getElem?_eq_some_iff.1 h
  rw [List.drop_eq_getElem_cons hl, he]
  rfl
theorem findF_end {P : ByteArray → Bool} {l : List ByteArray} {i : Nat} (h : ¬ i < l.length) : findF P i (l.drop i) = -1 := by
  rw [List.drop_of_length_le (by omega)]; rfl
theorem findF_range (P : ByteArray → Bool) : ∀ (l : List ByteArray) (i : Nat), findF P i l = -1 ∨ ((i : Int) ≤ findF P i l ∧ findF P i l < i + l.length)
  | [], i => .inl rfl
  | t :: l, i => by
    rw [findF]
    split
    · right; simp only [List.length_cons]; omega
    · rcases findF_range P l (i + 1) with h | h
      · exact .inl h
      · right; simp only [List.length_cons]; omega
def sameB (a b : ByteArray) : Bool := decide (lowB a = lowB b)
def knownB (s : ByteArray) (l : List ByteArray) : Int := findF (fun t => sameB s t) 0 l
def beginsB (s t : ByteArray) : Bool := (lowB s).data.toList.isPrefixOf (lowB t).data.toList
def shortB (s : ByteArray) (l : List ByteArray) : Int := if s.size < 3 then -1 else findF (fun t => beginsB s t) 0 l
end Go.Proofs.YthhpdjjfbfkgiaaGreatDoor.Wrd
/- Contracts of word.Lower and word.Same: small letters for A to Z. -/
namespace Go.Proofs.YthhpdjjfbfkgiaaGreatDoor.Wrd
open Go.RowKit
set_option linter.unusedVariables false

/-- bytes in a block. -/
def Buf (w : World) (g : Nat) (l : List UInt8) : Prop := g < w.heap.size ∧ ∀ j c, l[j]? = some c → w.cell? ⟨g, j, none⟩ = some (.int .u8 (c.toNat : Int)) ∧ w.frozen? ⟨g, j, none⟩ = false
theorem Buf.keep {w w1 : World} {g : Nat} {l : List UInt8} (h : Buf w g l) (hb : w1.heap[g]? = w.heap[g]?) (hz : w.heap.size ≤ w1.heap.size) : Buf w1 g l :=
  ⟨Nat.lt_of_lt_of_le h.1 hz, fun j c hc => ⟨(World.cell?_of_block (a := ⟨g, j, none⟩) hb).trans (h.2 j c hc).1, (World.frozen?_of_block (a := ⟨g, j, none⟩) hb).trans (h.2 j c hc).2⟩⟩
theorem addr_ne' {b i j : Nat} (h : i ≠ j) : (⟨b, i, none⟩ : Addr) ≠ ⟨b, j, none⟩ := fun e => h (by cases e; rfl)
theorem Buf.set {w : World} {g : Nat} {l : List UInt8} (h : Buf w g l) {pos : Nat} {c : UInt8} (d : UInt8) (hc : l[pos]? = some c) : Buf (w.setCell ⟨g, pos, none⟩ (.int .u8 (d.toNat : Int))) g (l.set pos d) := by
  refine ⟨by simpa [World.setCell] using h.1, fun j x hx => ?_⟩
  rw [List.getElem?_set] at hx
  by_cases e : pos = j
  · subst e
    rw [if_pos rfl, if_pos (List.getElem?_eq_some_iff.1 hc).1] at hx
    simp only [Option.some.injEq] at hx
    subst hx
    exact ⟨World.cell?_setCell_same _ _ _ (h.2 pos c hc).1, by simpa using (h.2 pos c hc).2⟩
  · rw [if_neg e] at hx
    exact ⟨(World.cell?_setCell_other _ _ _ _ (addr_ne' e)).trans (h.2 j x hx).1, by simpa using (h.2 j x hx).2⟩
theorem bytesRow_get (s : ByteArray) (cap j : Nat) (c : UInt8) (h : s.data.toList[j]? = some c) : (bytesRow s cap)[j]? = some (.int .u8 (c.toNat : Int)) ∧ j < (bytesRow s cap).size := by
  have hj : j < s.data.size := by have := (List.getElem?_eq_some_iff.1 h).1; simpa using this
  have e := bytesRow_at s cap j hj
  have hc : s.data[j] = c := by have := (List.getElem?_eq_some_iff.1 h).2; simpa using this
  rw [hc] at e
  exact ⟨e, (Array.getElem?_eq_some_iff.1 e).1⟩
theorem Buf.new (w : World) (s : ByteArray) (cap : Nat) (t : TypeId) : Buf (w.drew.alloc (.cells (bytesRow s cap) t ((bytesRow s cap).size, (bytesRow s cap).size + 1))) w.heap.size s.data.toList := by
  refine ⟨by simp, fun j c hc => ?_⟩
  obtain ⟨e, hj⟩ := bytesRow_get s cap j c hc
  refine ⟨(World.cell?_alloc_mark w.drew _ t _ j).trans e, (World.frozen?_alloc_mark w.drew _ t _ _ j).trans ?_⟩
  simp; omega
theorem iterPos_eq {w : World} {k : Nat} {s : ByteArray} {p : Nat} (h : w.heap[k]? = some (.stringIter s p)) : w.iterPos k = p := by simp [World.iterPos, h]

set_option maxRecDepth 1000000 in
set_option maxHeartbeats 4000000 in
theorem lower_any (s : ByteArray) (hs : s.size ≤ maxLen) (w : World) :
    Calls Tryz.prog 29 #[.string s] w fun e w' => e = .returned (.string (lowB s)) ∧ Below w.heap.size w w' := by
  unfold maxLen at hs
  have hcv : ∀ w0 : World, (convert 9 94 (.string s)).run Tryz.prog w0 = _ := fun w0 => run_bytes_of_string (P := Tryz.prog) w0 9 94 5 s Tryz.underlying9 Tryz.underlying94 Tryz.underlying5
  obtain ⟨cap, hcap⟩ : ∃ cap, cap = grownCap w s.size 0 5 := ⟨_, rfl⟩
  obtain ⟨W0, hW0⟩ : ∃ W0, W0 = w.drew.alloc (.cells (bytesRow s cap) 5 ((bytesRow s cap).size, (bytesRow s cap).size + 1)) := ⟨_, rfl⟩
  have hz0 : W0.heap.size = w.heap.size + 1 := by rw [hW0]; simp
  have B0 : Below w.heap.size w W0 := by rw [hW0]; exact (Below.refl _ _).drew.alloc (by simp) _
  have F0 : Buf W0 w.heap.size s.data.toList := by rw [hW0]; exact Buf.new w s cap 5
  have hcv0 := hcv w
  rw [← hcap, ← hW0] at hcv0
  clear hcv hW0 hcap
  go_enter Tryz.func29, Tryz.ntmps29
  go_wp2_with fail
  go_loopw [] (fun wr => ∃ pos : Nat, pos ≤ s.size ∧ wr.heap[w.heap.size + 1]? = some (.stringIter s pos) ∧ Buf wr w.heap.size (lowTo s pos) ∧ Below w.heap.size w wr) (fun wr => s.size - wr.iterPos (w.heap.size + 1))
  case atStart =>
    refine ⟨0, Nat.zero_le _, ?_, ?_, ?_⟩
    · have := World.iter_heap W0 s 0
      rw [hz0] at this
      exact this
    · rw [lowTo_zero]
      exact F0.keep (Below.heap_alloc _ _ _ (by omega)) (by simp [World.iter])
    · exact B0.alloc (by omega) _
  case round =>
    obtain ⟨pos, hle, hit, F, B⟩ := hrel
    have hpos0 := iterPos_eq hit
    clear B0 F0 hcv0 hz0
    by_cases hp : pos < s.size
    · have hnx : ∀ ty, (Instr.next (.pointer (some ⟨w.heap.size + 1, 0, none⟩)) true ty).run Tryz.prog wr = _ := fun ty => Lib.run_next_any_at wr (w.heap.size + 1) s pos ty hit hp
      have hwd := wd_pos s pos
      have hwl := wd_le s pos hp
      have hit2 := Lib.iterAt_heap wr (w.heap.size + 1) s pos (pos + (Utf8.decode s pos).2) hit
      have B2 := Lib.below_iterAt B (k := w.heap.size + 1) (by omega) s (pos + (Utf8.decode s pos).2)
      have F2 : Buf (wr.iterAt (w.heap.size + 1) s (pos + (Utf8.decode s pos).2)) w.heap.size (lowTo s pos) := F.keep (Lib.iterAt_other _ _ _ _ _ (by omega)) (by rw [Lib.iterAt_size]; exact Nat.le_refl _)
      clear F B hit
      obtain ⟨R, hR⟩ : ∃ R : Int, ((Utf8.decode s pos).1 : Int) = R := ⟨_, rfl⟩
      obtain ⟨W1, hW1⟩ : ∃ W1, W1 = wr.iterAt (w.heap.size + 1) s (pos + (Utf8.decode s pos).2) := ⟨_, rfl⟩
      rw [hR] at hnx
      rw [← hW1] at hnx hit2 B2 F2
      have R0 : 0 ≤ R := by omega
      have R1 : R ≤ 2147483647 := by have := decode_le s pos; omega
      clear hW1
      have HI : Hid (W1.heap[w.heap.size + 1]? = some (.stringIter s (pos + (Utf8.decode s pos).2))) := hit2
      have HB : Hid (Below w.heap.size w W1) := B2
      have HF : Hid (Buf W1 w.heap.size (lowTo s pos)) := F2
      clear hit2 B2 F2
      by_cases hAZ : 65 ≤ R ∧ R ≤ 90
      · obtain ⟨c1, c2⟩ := hAZ
        obtain ⟨q1, q2, q3, q4, q5⟩ := lowTo_put s pos hp (by omega)
        have hcell : W1.cell? ⟨w.heap.size, pos, none⟩ = some (.int .u8 R) := by rw [(HF.out.2 pos _ q2).1, ← hR, q5]
        have hfz : W1.frozen? ⟨w.heap.size, pos, none⟩ = false := (HF.out.2 pos _ q2).2
        have HS : Hid (Buf (W1.setCell ⟨w.heap.size, pos, none⟩ (.int .u8 (R + 32))) w.heap.size (lowTo s (pos + (Utf8.decode s pos).2))) := by
          show Buf _ _ _
          rw [q3]
          have := HF.out.set (s[pos]'hp + 32) q2
          rw [q4] at this
          rw [← hR]
          exact this
        have hpi : (pos : Int) < (s.size : Int) := by omega
        clear hR q1 q2 q3 q4 q5 HF
        go_wp2_with fail
        go_roundw
        case rel =>
          refine ⟨pos + (Utf8.decode s pos).2, hwl, ?_, HS.out, HB.out.setCell (Nat.le_refl _) _⟩
          rw [Below.heap_setCell _ _ _ _ (by simp)]; exact HI.out
        case measure =>
          rw [hpos0, iterPos_eq (p := pos + (Utf8.decode s pos).2) (by rw [Below.heap_setCell _ _ _ _ (by simp)]; exact HI.out)]
          omega
      · have HS : Hid (Buf W1 w.heap.size (lowTo s (pos + (Utf8.decode s pos).2))) := by
          show Buf _ _ _
          rw [lowTo_skip s pos hp (by omega)]
          exact HF.out
        clear hR HF
        go_wp2_with fail
        all_goals first
          | (exfalso; omega)
          | (go_roundw
             case rel => exact ⟨pos + (Utf8.decode s pos).2, hwl, HI.out, HS.out, HB.out⟩
             case measure =>
               rw [hpos0, iterPos_eq HI.out]
               omega)
    · have hnx : ∀ ty, (Instr.next (.pointer (some ⟨w.heap.size + 1, 0, none⟩)) true ty).run Tryz.prog wr = _ := fun ty => Lib.run_next_end_at wr (w.heap.size + 1) s pos ty hit hp
      have hcb := run_convert_bytes_back (P := Tryz.prog) wr 94 9 5 ⟨w.heap.size, 0, none⟩ cap (lowTo s pos) Tryz.underlying94 Tryz.underlying5 Tryz.underlying9 (fun j hj => by
        have := (F.2 j _ (List.getElem?_eq_getElem hj)).1
        by_cases z : j = 0
        · subst z; simpa [Addr.add] using this
        · simpa [Addr.add, z] using this)
      rw [lowTo_length, lowTo_end s pos hp] at hcb
      have HB : Hid (Below w.heap.size w wr) := B
      clear F B hit
      go_wp2_with fail
      go_ret
      exact ⟨rfl, HB.out⟩

theorem toList_eq (a b : ByteArray) : (a.toList == b.toList) = decide (a = b) := by
  rw [Lib.toList_data, Lib.toList_data, Bool.eq_iff_iff, beq_iff_eq, decide_eq_true_eq]
  constructor
  · intro h; cases a; cases b; exact congrArg ByteArray.mk (Array.toList_inj.1 h)
  · intro h; rw [h]
theorem ret_bool {a b : Bool} (h : a = b) : Ending.returned (.bool a) = .returned (.bool b) := by rw [h]

set_option maxRecDepth 100000 in
set_option maxHeartbeats 1000000 in
theorem same_any (a b : ByteArray) (ha : a.size ≤ maxLen) (hb : b.size ≤ maxLen) (w : World) :
    Calls Tryz.prog 47 #[.string a, .string b] w fun e w' => e = .returned (.bool (sameB a b)) ∧ Below w.heap.size w w' := by
  go_enter Tryz.func47, Tryz.ntmps47
  go_wp2_with fail
  refine (lower_any a ha _).mono ?_
  rintro e w1 ⟨rfl, B1⟩
  go_wp2_with fail
  refine (lower_any b hb _).mono ?_
  rintro e w2 ⟨rfl, b2⟩
  have B2 := B1.trans (b2.mono B1.size)
  clear b2 B1
  go_wp2_with fail
  go_ret
  exact ⟨ret_bool (toList_eq _ _), B2⟩

end Go.Proofs.YthhpdjjfbfkgiaaGreatDoor.Wrd
