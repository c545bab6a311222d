/- A source's lines: plain mathematics, and contract of line.Split. -/
import Derived.Test.YtgnfkkcagbbhmaaGreatDoorLnBq
import Derived.Test.YtgnfkkcagbbhmaaGreatDoorShelfq
import Derived.Lib.SplitLaws
namespace Go.Proofs.YtgnfkkcagbbhmaaGreatDoor.Lin
open Go.RowKit
set_option linter.unusedVariables false

/-- a text's pieces between line's ends. -/
def pieces (cur : List UInt8) : List UInt8 → List (List UInt8)
  | [] => [cur]
  | c :: l => if c = 10 then cur :: pieces [] l else pieces (cur ++ [c]) l
theorem pieces_none : ∀ (l cur : List UInt8), Lib.indexByte l 10 = -1 → pieces cur l = [cur ++ l]
  | [], cur, _ => by simp [pieces]
  | c :: l, cur, h => by
    unfold Lib.indexByte at h
    by_cases hc : c = 10
    · subst hc; simp at h
    · have hc' : (c == 10) = false := by simpa using hc
      rw [hc'] at h
      have h2 : Lib.indexByte l 10 = -1 := by
        by_cases q : Lib.indexByte l 10 = -1
        · exact q
        · simp [q] at h
          have := Lib.indexByte_ge l 10
          omega
      rw [pieces, if_neg hc, pieces_none l _ h2]; simp
theorem pieces_some : ∀ (l cur : List UInt8) (i : Nat), Lib.indexByte l 10 = (i : Int) → pieces cur l = (cur ++ l.take i) :: pieces [] (l.drop (i + 1))
  | [], cur, i, h => by unfold Lib.indexByte at h; omega
  | c :: l, cur, i, h => by
    unfold Lib.indexByte at h
    by_cases hc : c = 10
    · subst hc
      simp at h
      have : i = 0 := by omega
      subst this
      simp [pieces]
    · have hc' : (c == 10) = false := by simpa using hc
      rw [hc'] at h
      by_cases q : Lib.indexByte l 10 = -1
      · simp [q] at h
      · simp [q] at h
        obtain ⟨j, rfl⟩ : ∃ j : Nat, i = j + 1 := ⟨i - 1, by have := Lib.indexByte_ge l 10; omega⟩
        rw [pieces, if_neg hc, pieces_some l _ j (by omega)]; simp
def pcs (s : ByteArray) : List ByteArray := Lib.splitB ⟨#[10]⟩ 0 (Lib.countB s ⟨#[10]⟩) s
theorem one_ten (s : ByteArray) : Lib.indexB s ⟨#[10]⟩ = Lib.indexByte s.data.toList 10 := Lib.one s ⟨#[10]⟩ rfl
theorem pcs_map : ∀ (k : Nat) (s : ByteArray), Lib.countB s ⟨#[10]⟩ = k → (Lib.splitB ⟨#[10]⟩ 0 k s).map (·.data.toList) = pieces [] s.data.toList
  | k, s, h => by
    rcases Lib.indexB_cases s ⟨#[10]⟩ with hi | ⟨i, hi, hle⟩
    · rw [Lib.splitB_miss _ _ _ _ hi, pieces_none _ _ (by rw [← one_ten]; exact hi)]; simp
    · have hc := Lib.countB_hit s ⟨#[10]⟩ i (by decide) hi
      match k, h with
      | 0, h => omega
      | k + 1, h =>
        have hk : Lib.countB (s.extract (i + 1) s.size) ⟨#[10]⟩ = k := by
          have : (⟨#[10]⟩ : ByteArray).size = 1 := rfl
          rw [this] at hc
          omega
        rw [Lib.splitB_hit _ _ _ _ _ hi, pieces_some _ _ i (by rw [← one_ten]; exact hi), List.map_cons]
        have h1 : (⟨#[10]⟩ : ByteArray).size = 1 := rfl
        rw [h1, pcs_map k _ hk, Nat.add_zero, Lib.extract_from_zero, List.nil_append]
        congr 2
        rw [ByteArray.data_extract, Array.toList_extract, List.extract_eq_take_drop]
        exact List.take_of_length_le (by simp)
  termination_by k => k
theorem pcs_same (s : ByteArray) : (pcs s).map (·.data.toList) = pieces [] s.data.toList := pcs_map _ s rfl
theorem splitB_sizes (sep : ByteArray) : ∀ (k : Nat) (s p : ByteArray), p ∈ Lib.splitB sep 0 k s → p.size ≤ s.size
  | 0, s, p, h => by simp [Lib.splitB] at h; subst h; exact Nat.le_refl _
  | k + 1, s, p, h => by
    rcases Lib.indexB_cases s sep with hi | ⟨i, hi, hle⟩
    · rw [Lib.splitB_miss _ _ _ _ hi] at h
      simp at h; subst h; exact Nat.le_refl _
    · rw [Lib.splitB_hit _ _ _ _ _ hi] at h
      rcases List.mem_cons.1 h with rfl | h
      · rw [ByteArray.size_extract]; omega
      · have := splitB_sizes sep k _ p h
        rw [ByteArray.size_extract] at this; omega

/-- a line: its number, its fields. -/
abbrev Lne := Int × List ByteArray
/-- all lines, or the number of the first that can not be and its error. -/
def lnsF : List (List UInt8) → Nat → List Lne → Sum (Int × Int) (List Lne)
  | [], n, acc => .inr acc
  | t :: ts, n, acc => match oneL t with
    | none => .inl ((n : Int) + 1, 21)
    | some F => if F.length = 0 then lnsF ts (n + 1) acc else if 16 < F.length ∨ acc.length = 400 then .inl ((n : Int) + 1, 3) else lnsF ts (n + 1) (acc ++ [((n : Int) + 1, F)])
/-- what Split answers. -/
def lnsS (s : ByteArray) : Sum (Int × Int) (List Lne) := if 8192 < s.size then .inl (0, 3) else lnsF (pieces [] s.data.toList) 0 []
theorem lnsF_none {t : List UInt8} {ts : List (List UInt8)} {n : Nat} {acc : List Lne} (h : oneL t = none) : lnsF (t :: ts) n acc = .inl ((n : Int) + 1, 21) := by rw [lnsF, h]
theorem lnsF_some {t : List UInt8} {ts : List (List UInt8)} {n : Nat} {acc : List Lne} {F : List ByteArray} (h : oneL t = some F) : lnsF (t :: ts) n acc = if F.length = 0 then lnsF ts (n + 1) acc else if 16 < F.length ∨ acc.length = 400 then .inl ((n : Int) + 1, 3) else lnsF ts (n + 1) (acc ++ [((n : Int) + 1, F)]) := by rw [lnsF, h]

/-- lines as they lie in memory, with the slices of their fields. -/
abbrev LnV := Int × Value × List ByteArray
def flatL : List LnV → List Value
  | [] => []
  | p :: l => .int .i64 p.1 :: p.2.1 :: flatL l
theorem flatL_append : ∀ (l k : List LnV), flatL (l ++ k) = flatL l ++ flatL k
  | [], k => rfl
  | r :: l, k => by simp [flatL, flatL_append l k]
def saidL (l : List LnV) : List Lne := l.map fun p => (p.1, p.2.2)
def OwnL (W : World) (base : Nat) (ty : TypeId) (v : Value) (l : List LnV) : Prop :=
  W.ownsRow base ty 2 v l.length (flatL l) ∧ ∀ p ∈ l, W.ownsRow base 9 1 p.2.1 p.2.2.length (cellsS p.2.2)
theorem OwnL.below {W W1 : World} {base : Nat} {ty : TypeId} {v : Value} {l : List LnV} (h : OwnL W base ty v l) (hb : Below W.heap.size W W1) : OwnL W1 base ty v l :=
  ⟨own_keep h.1 (fun k _ hk => hb.block k hk), fun p hp => own_keep (h.2 p hp) (fun k _ hk => hb.block k hk)⟩
theorem OwnL.lower {W : World} {base base' : Nat} {ty : TypeId} {v : Value} {l : List LnV} (h : OwnL W base ty v l) (hb : base' ≤ base) : OwnL W base' ty v l :=
  ⟨own_lower h.1 hb, fun p hp => own_lower (h.2 p hp) hb⟩
theorem OwnL.nil (W : World) (base : Nat) (ty : TypeId) : OwnL W base ty (.slice none 0 0) [] := ⟨World.ownsRow_nil _ _ _ _, fun p hp => by cases hp⟩
/-- a line more. -/
theorem OwnL.more {W W3 : World} {base : Nat} {ty : TypeId} {v v' u : Value} {l : List LnV} {n : Int} {F : List ByteArray} (h : OwnL W base ty v l) (hu : W.ownsRow base 9 1 u F.length (cellsS F)) (ht : ty ≠ 9) (obj : Obj)
    (hg : (W.alloc obj).grownBy W3 v.ownBlock) (ho : W3.ownsRow base ty 2 v' (l.length + 1) (flatL l ++ [.int .i64 n, u])) : OwnL W3 base ty v' (l ++ [(n, u, F)]) := by
  refine ⟨?_, fun p hp => ?_⟩
  · rw [flatL_append, List.length_append]; exact ho
  · rcases List.mem_append.1 hp with hp | hp
    · exact ((h.2 p hp).alloc obj).kept hg (own_apart (h.2 p hp) h.1 (fun e => ht e.symm))
    · rw [List.mem_singleton.1 hp]
      exact (hu.alloc obj).kept hg (own_apart hu h.1 (fun e => ht e.symm))
theorem infoLine : (Tryz.prog.info? 54).map (fun i => (i.zero, i.size, i.bytes)) = some (some (.agg #[.int .i64 0, .slice none 0 0]), 2, 32) := by kernel_rfl

theorem infoLineE : (Tryz.prog.info? 65).map (fun i => (i.zero, i.size, i.bytes)) = some (some (.agg #[.int .i64 0, .slice none 0 0]), 2, 32) := by kernel_rfl

theorem two_newB (w : World) (a b : Value) (t : TypeId) : ∀ j u, [a, b][j]? = some u → (w.alloc (.cells #[a, b] t)).cell? ((⟨w.heap.size, 0, none⟩ : Addr).add j) = some u := by
  intro j u hj
  match j, hj with
  | 0, hj => simp at hj; subst hj; simp [Addr.add]
  | 1, hj => simp at hj; subst hj; simp [Addr.add]
  | j + 2, hj => simp at hj

/-- a variable that the search in a text reads, whatever it holds. -/
def Mx (w : World) : Prop := ∃ m : Int, w.cell? ⟨0, 0, none⟩ = some (.int .i64 m)
theorem Mx.below {w w1 : World} (h : Mx w) (hb : Below w.heap.size w w1) : Mx w1 := by
  obtain ⟨m, hm⟩ := h
  exact ⟨m, (hb.cell (World.block_lt_of_cell? w _ hm)).trans hm⟩
/-- what Split's answer is, in memory. -/
def SplitIs (w : World) (ty : TypeId) (e : Ending) (w' : World) : Sum (Int × Int) (List Lne) → Prop
  | .inl r => e = .returned (.tuple #[.slice none 0 0, .int .i64 r.1, .int .i64 r.2])
  | .inr L => ∃ v l, e = .returned (.tuple #[v, .int .i64 0, .int .i64 0]) ∧ OwnL w' w.heap.size ty v l ∧ saidL l = L

theorem row_cell {W : World} {g j : Nat} {L : List ByteArray} {x : ByteArray} (h : W.heap[g]? = some (.cells (L.map Value.string).toArray 9 (0, 0))) (hj : L[j]? = some x) : W.cell? ⟨g, j, none⟩ = some (.string x) := by
  rw [cell_of_row W g j _ 9 (0, 0) h]
  simp [hj]

set_option maxRecDepth 1000000 in
set_option maxHeartbeats 8000000 in
theorem lSplit_any (s : ByteArray) (w : World) (hM : Mx w) (hs9 : s.size ≤ 140737488351232) :
    Calls Tryz.prog 17 #[.string s] w fun e w' => Below w.heap.size w w' ∧ SplitIs w 54 e w' (lnsS s) := by
  obtain ⟨i0, hi, hz0, hz1, hz2⟩ := info_parts infoLine
  by_cases hbig : 8192 < s.size
  · have e : lnsS s = .inl (0, 3) := if_pos hbig
    rw [e]
    have hbig' : (8192 : Int) < (s.size : Int) := by omega
    go_enter Tryz.func17, Tryz.ntmps17
    go_wp2_with fail
    go_ret3
    exact ⟨Below.refl _ _, rfl⟩
  · have hbig' : ¬ (8192 : Int) < (s.size : Int) := by omega
    obtain ⟨G, hG⟩ : ∃ G, G = lnsS s := ⟨_, rfl⟩
    rw [← hG]
    have HG : Hid (lnsF ((pcs s).map (·.data.toList)) 0 [] = G) := by
      show _ = _
      rw [hG, pcs_same]; unfold lnsS; rw [if_neg hbig]
    clear hG
    obtain ⟨mx, hmx⟩ := hM
    have HSP : Hid (∀ w : World, w.cell? ⟨0, 0, none⟩ = some (.int .i64 mx) → Calls Tryz.prog 45 #[.string s, .string ⟨#[10]⟩] w fun e w' => e = .returned (.slice (some ⟨w.heap.size, 0, none⟩) (pcs s).length (pcs s).length) ∧ w' = w.alloc (.cells ((pcs s).map Value.string).toArray 9)) := fun w h => by
      have := Tryz.strings_Split s ⟨#[10]⟩ mx w (by omega) h (by decide)
      have hl : (pcs s).length = Lib.countB s ⟨#[10]⟩ + 1 := Lib.splitB_all _ (by decide) 0 _ s rfl
      rw [hl]
      exact this
    have hle : (pcs s).length ≤ 8193 := by
      have hl : (pcs s).length = Lib.countB s ⟨#[10]⟩ + 1 := Lib.splitB_all _ (by decide) 0 _ s rfl
      have := Lib.countB_le ⟨#[10]⟩ (by decide) s.size s (Nat.le_refl _)
      omega
    have HSZ : Hid (∀ p ∈ pcs s, p.size ≤ 8192) := fun p hp => by
      have := splitB_sizes ⟨#[10]⟩ _ s p hp
      omega
    obtain ⟨N, hN⟩ : ∃ N, (pcs s).length = N := ⟨_, rfl⟩
    rw [hN] at HSP hle
    have HNl : Hid ((pcs s).length = N) := hN
    clear hN
    go_enter Tryz.func17, Tryz.ntmps17
    go_wp2_with fail
    refine (HSP.out _ hmx).mono ?_
    rintro e w1 ⟨rfl, rfl⟩
    clear HSP hmx
    go_wp2_with fail
    go_loopw [5, 17] (fun v i wr => ∃ (k : Nat) (l : List LnV), k ≤ N ∧ i = .int .i64 (k : Int) ∧ l.length ≤ k ∧ l.length ≤ 400 ∧ Hid (OwnL wr (w.heap.size + 1) 54 v l) ∧ Hid (lnsF (((pcs s).drop k).map (·.data.toList)) k (saidL l) = G) ∧ Hid (wr.heap[w.heap.size]? = some (.cells ((pcs s).map Value.string).toArray 9 (0, 0))) ∧ Hid (Below w.heap.size w wr)) (fun _ i _ => N - (intOf i).toNat)
    case atStart => exact ⟨0, [], Nat.zero_le _, rfl, Nat.zero_le _, Nat.zero_le _, OwnL.nil _ _ _, HG, heap_alloc_new w _, (Below.refl _ _).alloc (Nat.le_refl _) _⟩
    case round =>
      clear HG
      obtain ⟨k, l, hk, rfl, hlk, hl4, HOl, HG, HR, HB⟩ := hrel
      obtain ⟨m, hm⟩ : ∃ m, l.length = m := ⟨_, rfl⟩
      have HQ : Hid (wr.ownsRow (w.heap.size + 1) 54 2 u5 m (flatL l)) := by have := HOl.out.1; rw [hm] at this; exact this
      by_cases hkN : k < N
      · have hkN' : (k : Int) < (N : Int) := by omega
        have hkw : IntKind.i64.wrap ((k : Int) + 1) = (k : Int) + 1 := by rw [IntKind.wrap_i64]; omega
        have hk0 : (0 : Int) ≤ (k : Int) := by omega
        have hkp : k < (pcs s).length := by rw [HNl.out]; exact hkN
        obtain ⟨p, hp⟩ : ∃ p, (pcs s)[k]? = some p := ⟨_, List.getElem?_eq_getElem hkp⟩
        have hcell := row_cell HR.out hp
        have hpz : p.size ≤ 8192 := HSZ.out p (List.mem_of_getElem? hp)
        have HD : Hid (lnsF (p.data.toList :: ((pcs s).drop (k + 1)).map (·.data.toList)) k (saidL l) = G) := by
          show _ = _
          rw [← HG.out, List.drop_eq_getElem_cons hkp, (List.getElem?_eq_some_iff.1 hp).2]; rfl
        have HSA : Hid ((saidL l).length = m) := by show _ = _; unfold saidL; rw [List.length_map, hm]
        have HLS : Hid (∀ W : World, Calls Tryz.prog 46 #[.string p] W fun e w' => Below W.heap.size W w' ∧ LineOf W e w' (oneL p.data.toList)) := lsplit_any p hpz
        clear HG hp hkp
        go_wp2_with fail
        refine (HLS.out _).mono ?_
        rintro e w2 ⟨hb, hL⟩
        clear HLS hcell
        have hsz1 := HB.out.size
        have hlt1 : w.heap.size < wr.heap.size := (Array.getElem?_eq_some_iff.1 HR.out).1
        have HR2 : Hid (w2.heap[w.heap.size]? = some (.cells ((pcs s).map Value.string).toArray 9 (0, 0))) := (hb.block _ hlt1).trans HR.out
        have HB2 : Hid (Below w.heap.size w w2) := HB.out.trans (hb.mono HB.out.size)
        have HOl2 : Hid (OwnL w2 (w.heap.size + 1) 54 u5 l) := HOl.out.below hb
        clear HR HB HOl HQ hb
        have HQ : Hid (w2.ownsRow (w.heap.size + 1) 54 2 u5 m (flatL l)) := by have := HOl2.out.1; rw [hm] at this; exact this
        cases hone : oneL p.data.toList with
        | none =>
          rw [hone] at hL
          obtain ⟨v, rfl⟩ := hL
          have HE : G = .inl ((k : Int) + 1, 21) := by rw [← HD.out, lnsF_none hone]
          subst HE
          clear HD HSA HQ
          go_wp2_with fail
          go_ret3
          exact ⟨HB2.out, rfl⟩
        | some F =>
          rw [hone] at hL
          obtain ⟨v, rfl, hv0⟩ := hL
          have HV : Hid (w2.ownsRow (w.heap.size + 1) 9 1 v F.length (cellsS F)) := own_lower hv0 (by omega)
          clear hv0
          obtain ⟨n, hn⟩ : ∃ n, F.length = n := ⟨_, rfl⟩
          have HVn : Hid (w2.ownsRow (w.heap.size + 1) 9 1 v n (cellsS F)) := by have := HV.out; rw [hn] at this; exact this
          have HE := HD.out
          rw [lnsF_some hone, hn, HSA.out] at HE
          clear HD hone
          have hnm : n ≤ maxLen := by
            rcases HVn.out.2 with ⟨_, h0⟩ | ⟨_, cap, _, _, _, _, h3, h4, _⟩
            · omega
            · omega
          unfold maxLen at hnm
          have hform : ∃ a cap, v = .slice a n cap := by
            rcases HVn.out.2 with ⟨h0, h1⟩ | ⟨g, cap, _, h0, _⟩
            · exact ⟨none, 0, by rw [h0, h1]⟩
            · exact ⟨_, cap, h0⟩
          obtain ⟨a, cap, rfl⟩ := hform
          by_cases hn0 : n = 0
          · rw [if_pos hn0] at HE
            have HE2 : Hid (lnsF (((pcs s).drop (k + 1)).map (·.data.toList)) (k + 1) (saidL l) = G) := HE
            clear HE HSA HQ HV HVn hn
            subst hn0
            go_wp2_with fail
            go_roundw
            case rel => exact ⟨k + 1, l, by omega, by go_num, by omega, hl4, HOl2, HE2, HR2, HB2⟩
            case measure => simp [intOf]; omega
          · rw [if_neg hn0] at HE
            have hn0' : ((n : Int) == 0) = false := by rw [beq_eq_false_iff_ne]; omega
            have hn0'' : ¬ (n : Int) = 0 := by omega
            by_cases h16 : 16 < n
            · rw [if_pos (.inl h16)] at HE
              subst HE
              have h16' : (16 : Int) < (n : Int) := by omega
              clear HSA HQ HV HVn hn hn0
              go_wp2_with fail
              go_ret3
              exact ⟨HB2.out, rfl⟩
            · have h16' : ¬ (16 : Int) < (n : Int) := by omega
              have hrow : ∃ a5 c5, u5 = .slice a5 m c5 := by
                rcases HQ.out.2 with ⟨h0, h1⟩ | ⟨g, cap5, _, h0, _⟩
                · exact ⟨none, 0, by rw [h0, h1]⟩
                · exact ⟨_, cap5, h0⟩
              by_cases h400 : m = 400
              · rw [if_pos (.inr h400)] at HE
                subst HE
                obtain ⟨a5, c5, rfl⟩ := hrow
                clear HSA HQ HV HVn hn hn0 HOl2
                subst h400
                go_wp2_with fail
                go_ret3
                exact ⟨HB2.out, rfl⟩
              · have h400' : ((m : Int) == 400) = false := by rw [beq_eq_false_iff_ne]; omega
                rw [if_neg (by omega)] at HE
                have HE2 : Hid (lnsF (((pcs s).drop (k + 1)).map (·.data.toList)) (k + 1) (saidL (l ++ [((k : Int) + 1, .slice a n cap, F)])) = G) := by
                  show _ = _
                  rw [← HE]; unfold saidL; simp
                have hlt2 : w.heap.size < w2.heap.size := (Array.getElem?_eq_some_iff.1 HR2.out).1
                have HNe : Hid (some w.heap.size ≠ u5.ownBlock) := fun e => by have := (HOl2.out.1.lt _ e.symm).1; omega
                clear HE HSA hrow hn0
                have hl5 : m + 1 ≤ 400 := by omega
                rcases HQ.out.2 with ⟨e5, -⟩ | ⟨g5, cap5, cur5, e5, _, _, _, _, _, _⟩
                all_goals
                  subst e5
                  go_wp2_with (first
                  | (at_builtin; refine wpList_append_own _ rfl _ _ 45 rfl (w.heap.size + 1) 54 i0 (.agg #[.int .i64 0, .slice none 0 0]) 2 32 Tryz.underlying45 hi hz0 hz1 hz2 rfl (by decide) _ m (flatL l) rfl (HQ.out.alloc _) ⟨w2.heap.size, 0, none⟩ 1 1 [.int .i64 ((k : Int) + 1), .slice a n cap] rfl rfl (two_newB _ _ _ _) (by intro x hx; simp at hx; rcases hx with rfl | rfl <;> rfl) (by unfold maxLen; omega) (by omega) (by have := HB2.out.size; simp; omega) ?_; intro v' w3 hown' hgrow3 hnil3
                     have HJ : Hid (OwnL w3 (w.heap.size + 1) 54 v' (l ++ [((k : Int) + 1, .slice a n cap, F)]) ∧ w3.heap[w.heap.size]? = some (.cells ((pcs s).map Value.string).toArray 9 (0, 0)) ∧ Below w.heap.size w w3) := ⟨HOl2.out.more HV.out (by decide) _ hgrow3 (by rw [hm]; exact hown'), (hgrow3.block _ (by simp; omega) HNe.out).trans ((Below.heap_alloc _ _ _ hlt2).trans HR2.out), Below.grown (HB2.out.alloc HB2.out.size _) hgrow3 (by have := HB2.out.size; simp; omega) (fun k hk => by have := (HOl2.out.1.lt _ hk).1; omega)⟩
                     clear hown' hgrow3 hnil3))
                  go_roundw
                  case rel => exact ⟨k + 1, l ++ [((k : Int) + 1, Value.slice a n cap, F)], by omega, by go_num, by rw [List.length_append]; show _ + 1 ≤ _; omega, by rw [List.length_append]; show _ + 1 ≤ _; omega, HJ.out.1, HE2, HJ.out.2.1, HJ.out.2.2⟩
                  case measure => simp [intOf]; omega
      · have hkN' : ¬ (k : Int) < (N : Int) := by omega
        have HE : G = .inr (saidL l) := by
          rw [← HG.out, List.drop_of_length_le (by rw [HNl.out]; omega)]; rfl
        subst HE
        have HO2 := HOl.out.lower (show w.heap.size ≤ w.heap.size + 1 by omega)
        have hB := HB.out
        clear HG HR HQ HB HOl
        go_wp2_with fail
        go_ret3
        exact ⟨hB, _, l, rfl, HO2, rfl⟩

end Go.Proofs.YtgnfkkcagbbhmaaGreatDoor.Lin
