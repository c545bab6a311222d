import Derived.Test.YthhpdjjfbfkgiaaGreatDoorS1
import Derived.Test.YthhpdjjfbfkgiaaGreatDoorS2
import Derived.Lib.MapLaws
import Derived.Laws.RangeAny
/- Contract: src.readAll, over a list of readers. -/
namespace Go.Proofs.YthhpdjjfbfkgiaaGreatDoor
open Go.RowKit Lin
set_option linter.unusedVariables false

def BelR (w : World) (W : World) : Prop := Below w.heap.size w W
theorem BelR.below {w W W1 : World} (h : BelR w W) (hb : Below W.heap.size W W1) : BelR w W1 := Below.trans h (hb.mono (Below.size h))
theorem BelR.drew {w W : World} (h : BelR w W) : BelR w W.drew := Below.drew h

/-- a reader, its method, the field that it reads, what it answers. -/
structure Rdr where
  T : TypeId
  v : Value
  K : Nat
  f : ByteArray
  xT : TypeId
  xv : Value
  b : Bool
/-- what it tells. -/
abbrev Rdr.x (r : Rdr) : Value := .iface r.xT r.xv
/-- what is known of it. -/
def Rdr.ok (r : Rdr) : Prop :=
  (∀ w : World, (nilAhead 335 r.T r.v "computus/src.read").run Tryz.prog w = .ok (some false) w) ∧ (∀ w : World, (method 335 r.T r.v "computus/src.read").run Tryz.prog w = .ok (r.K, r.v) w) ∧
  (∀ w : World, Calls Tryz.prog r.K #[r.v, .string r.f] w fun e w' => e = .returned (.tuple #[.iface r.xT r.xv, .bool r.b]) ∧ Below w.heap.size w w') ∧
  ∀ (a : Array Value) (w : World), (callFunc r.K a).run Tryz.prog w = .ok (.enter r.K a) w
def rdL : List Rdr → List Value → Option (List Value)
  | [], acc => some acc
  | r :: l, acc => if r.b = true then rdL l (acc ++ [r.x]) else none
def ReadIs (w : World) (e : Ending) (w' : World) : Option (List Value) → Prop
  | none => e = .returned (.tuple #[.slice none 0 0, .bool false])
  | some L => ∃ v, e = .returned (.tuple #[v, .bool true]) ∧ w'.ownsRow w.heap.size 20 1 v L.length L
theorem infoAny : (Tryz.prog.info? 20).map (fun i => (i.zero, i.size, i.bytes)) = some (some .nilIface, 1, 16) := by kernel_rfl
theorem one_newB (w : World) (a : Value) (t : TypeId) : ∀ j u, [a][j]? = some u → (w.alloc (.cells #[a] t)).cell? ((⟨w.heap.size, 0, none⟩ : Addr).add j) = some u := by
  intro j u hj
  match j, hj with
  | 0, hj => simp at hj; subst hj; simp [Addr.add]
  | j + 1, hj => simp at hj

set_option maxRecDepth 100000 in
set_option maxHeartbeats 4000000 in
theorem readAll_len (a b : Option Addr) (n c m d : Nat) (h : n ≠ m) (w : World) :
    Calls Tryz.prog 43 #[.slice a n c, .slice b m d] w fun e w' => e = .returned (.tuple #[.slice none 0 0, .bool false]) ∧ Below w.heap.size w w' := by
  have h' : ((n : Int) != (m : Int)) = true := by simp; omega
  go_enter Tryz.func43, Tryz.ntmps43
  go_wp2
  go_ret2
  exact ⟨rfl, Below.refl _ _⟩

set_option maxRecDepth 1000000 in
set_option maxHeartbeats 8000000 in
theorem readAll_any (rs : List Rdr) (N : Nat) (hN : rs.length = N) (g o g2 o2 c c2 : Nat) (w : World) (HK : Hid (∀ r ∈ rs, r.ok)) (hg : g < w.heap.size) (hg2 : g2 < w.heap.size) (hn : N ≤ 16)
    (HF : Hid (∀ j r, rs[j]? = some r → w.cell? ⟨g, o + j, none⟩ = some (.string r.f))) (HR : Hid (∀ j r, rs[j]? = some r → w.cell? ⟨g2, o2 + j, none⟩ = some (.iface r.T r.v))) (hc : N ≤ c) (hc2 : N ≤ c2) :
    Calls Tryz.prog 43 #[.slice (some ⟨g, o, none⟩) N c, .slice (some ⟨g2, o2, none⟩) N c2] w fun e w' => Below w.heap.size w w' ∧ ReadIs w e w' (rdL rs []) := by
  obtain ⟨i0, hi, hz0, hz1, hz2⟩ := info_parts infoAny
  obtain ⟨G, hG⟩ : ∃ G, rdL rs [] = G := ⟨_, rfl⟩
  rw [hG]
  have HG0 : Hid (rdL rs [] = G) := hG
  have HN : Hid (rs.length = N) := hN
  clear hG hN
  go_enter Tryz.func43, Tryz.ntmps43
  go_wp2_with fail
  go_loopw [6, 18] (fun v i wr => ∃ (k : Nat) (l : List Value), k ≤ N ∧ i = .int .i64 (k : Int) ∧ l.length = k ∧ Hid (wr.ownsRow w.heap.size 20 1 v k l) ∧ Hid (rdL (rs.drop k) l = G) ∧ Hid (Below w.heap.size w wr)) (fun _ i _ => N - (intOf i).toNat)
  case atStart => exact ⟨0, [], Nat.zero_le _, rfl, rfl, World.ownsRow_nil _ _ _ _, HG0, Below.refl _ _⟩
  case round =>
    clear HG0
    obtain ⟨k, l, hk, rfl, hlk, HO, HG, HB⟩ := hrel
    by_cases hkN : k < N
    · have hkN' : (k : Int) < (N : Int) := by omega
      have hkw : IntKind.i64.wrap ((k : Int) + 1) = (k : Int) + 1 := by rw [IntKind.wrap_i64]; omega
      have hk0 : (0 : Int) ≤ (k : Int) := by omega
      have hkp : k < rs.length := by rw [HN.out]; exact hkN
      obtain ⟨r, hr⟩ : ∃ r, rs[k]? = some r := ⟨_, List.getElem?_eq_getElem hkp⟩
      have HRK : Hid r.ok := HK.out r (List.mem_of_getElem? hr)
      have hcF : wr.cell? ⟨g, o + k, none⟩ = some (.string r.f) := (HB.out.cell hg).trans (HF.out k r hr)
      have hcR : wr.cell? ⟨g2, o2 + k, none⟩ = some (.iface r.T r.v) := (HB.out.cell hg2).trans (HR.out k r hr)
      have HD : Hid (rdL (r :: rs.drop (k + 1)) l = G) := by
        show _ = _
        rw [← HG.out, List.drop_eq_getElem_cons hkp, (List.getElem?_eq_some_iff.1 hr).2]
      clear HG hr hkp HK
      obtain ⟨T, v, MF, f, xT, xv, b⟩ := r
      have hna : ∀ w : World, (nilAhead 335 T v "computus/src.read").run Tryz.prog w = .ok (some false) w := HRK.out.1
      have hme : ∀ w : World, (method 335 T v "computus/src.read").run Tryz.prog w = .ok (MF, v) w := HRK.out.2.1
      have HC : Hid (∀ w : World, Calls Tryz.prog MF #[v, .string f] w fun e w' => e = .returned (.tuple #[.iface xT xv, .bool b]) ∧ Below w.heap.size w w') := HRK.out.2.2.1
      have hcf : ∀ (a : Array Value) (w : World), (callFunc MF a).run Tryz.prog w = .ok (.enter MF a) w := HRK.out.2.2.2
      clear HRK
      go_wp2_with fail
      have hgr : g < wr.heap.size := Nat.lt_of_lt_of_le hg HB.out.size
      have BR : Hid (BelR wr wr) := Below.refl _ _
      refine wp_region_held_drew (S := BelR wr) (by kernel_rfl) BR.out.drew (fun hHeld => ?_)
      refine wpAnyH_take (i := 0) (v := ?_) (oi := { dst := some 24, op := _, type := _, pos := _, after := _, guard := none }) rfl (by kernel_rfl) (by kernel_rfl) (by kernel_rfl) (fun _ _ _ h => h) (Or.inl ⟨by kernel_rfl, ?_⟩) (by assumption) ?_
      case refine_2 => (intro w9 hSw; clear hSw; go_simp; try with_reducible rfl)
      simp only [Act.put, List.setIfInBounds_toArray, List.set_cons_zero, List.set_cons_succ]
      refine wpAnyH_take (i := 1) (v := ?_) (oi := { dst := some 25, op := _, type := _, pos := _, after := _, guard := none }) rfl (by kernel_rfl) (by kernel_rfl) (by kernel_rfl) (fun _ _ _ h => h) (Or.inl ⟨by kernel_rfl, ?_⟩) (by assumption) ?_
      case refine_2 => (intro w9 hSw; clear hSw; go_simp; try with_reducible rfl)
      simp only [Act.put, List.setIfInBounds_toArray, List.set_cons_zero, List.set_cons_succ]
      refine wpAnyH_take (i := 2) (v := ?_) (oi := { dst := some 26, op := _, type := _, pos := _, after := _, guard := none }) rfl (by kernel_rfl) (by kernel_rfl) (by kernel_rfl) (fun _ _ _ h => h) (Or.inl ⟨by kernel_rfl, ?_⟩) (by assumption) ?_
      case refine_2 => (intro w9 hSw; clear hSw; go_simp; try with_reducible rfl)
      simp only [Act.put, List.setIfInBounds_toArray, List.set_cons_zero, List.set_cons_succ]
      refine wpAnyH_take (i := 3) (v := ?_) (oi := { dst := some 27, op := _, type := _, pos := _, after := _, guard := none }) rfl (by kernel_rfl) (by kernel_rfl) (by kernel_rfl) (fun _ _ _ h => h) (Or.inl ⟨by kernel_rfl, ?_⟩) (by assumption) ?_
      case refine_2 => (intro w9 hSw; clear hSw; go_simp; try with_reducible rfl)
      simp only [Act.put, List.setIfInBounds_toArray, List.set_cons_zero, List.set_cons_succ]
      refine wpAnyH_take (i := 4) (v := ?_) (oi := { dst := some 28, op := _, type := _, pos := _, after := _, guard := none }) rfl (by kernel_rfl) (by kernel_rfl) (by kernel_rfl) (fun _ _ _ h => h) (Or.inl ⟨by kernel_rfl, ?_⟩) (by assumption) ?_
      case refine_2 => (intro w9 hSw; have zz := (Below.cell hSw hgr).trans hcF; clear hSw; go_simp; try with_reducible rfl)
      simp only [Act.put, List.setIfInBounds_toArray, List.set_cons_zero, List.set_cons_succ]
      refine wpAnyH_take (i := 5) (v := ?_) (oi := { dst := some 29, op := _, type := _, pos := _, after := _, guard := none }) rfl (by kernel_rfl) (by kernel_rfl) (by kernel_rfl) (fun _ _ _ h => h) (Or.inl ⟨by kernel_rfl, ?_⟩) (by assumption) ?_
      case refine_2 => (intro w9 hSw; clear hSw; go_simp; try with_reducible rfl)
      simp only [Act.put, List.setIfInBounds_toArray, List.set_cons_zero, List.set_cons_succ]
      refine wpAnyH_take (i := 6) (v := ?_) (oi := { dst := some 30, op := _, type := _, pos := _, after := _, guard := none }) rfl (by kernel_rfl) (by kernel_rfl) (by kernel_rfl) (fun _ _ _ h => h) (Or.inl ⟨by kernel_rfl, ?_⟩) (by assumption) ?_
      case refine_2 => (intro w9 hSw; clear hSw; go_simp; try with_reducible rfl)
      simp only [Act.put, List.setIfInBounds_toArray, List.set_cons_zero, List.set_cons_succ]
      refine wpAnyH_take (i := 7) (v := ?_) (oi := { dst := some 31, op := _, type := _, pos := _, after := _, guard := none }) rfl (by kernel_rfl) (by kernel_rfl) (by kernel_rfl) (fun _ _ _ h => h) (Or.inl ⟨by kernel_rfl, ?_⟩) (by assumption) ?_
      case refine_2 => (intro w9 hSw; clear hSw; go_simp; try with_reducible rfl)
      simp only [Act.put, List.setIfInBounds_toArray, List.set_cons_zero, List.set_cons_succ]
      refine wpAnyH_ready (rs := [8]) (by kernel_rfl) (by simp) (AllReadyH.cons (o := { dst := some 32, op := _, type := _, pos := _, after := _, guard := none }) rfl (fun K hK => ?_) AllReadyH.nil)
      go_simp
      refine (HC.out _).mono ?_
      rintro e v1 ⟨rfl, hb1⟩
      refine hK.out _ _ (hHeld.below hb1) (fun hHeld => ?_)
      clear hK K hb1
      refine wpAnyH_take (i := 9) (v := ?_) (oi := { dst := some 23, op := _, type := _, pos := _, after := _, guard := none }) rfl (by kernel_rfl) (by kernel_rfl) (by kernel_rfl) (fun _ _ _ h => h) (Or.inl ⟨by kernel_rfl, ?_⟩) (by assumption) ?_
      case refine_2 => (intro w9 hSw; clear hSw; go_simp; try with_reducible rfl)
      simp only [Act.put, List.setIfInBounds_toArray, List.set_cons_zero, List.set_cons_succ]
      refine wpAnyH_take (i := 10) (v := ?_) (oi := { dst := some 33, op := _, type := _, pos := _, after := _, guard := none }) rfl (by kernel_rfl) (by kernel_rfl) (by kernel_rfl) (fun _ _ _ h => h) (Or.inl ⟨by kernel_rfl, ?_⟩) (by assumption) ?_
      case refine_2 => (intro w9 hSw; clear hSw; go_simp; try with_reducible rfl)
      simp only [Act.put, List.setIfInBounds_toArray, List.set_cons_zero, List.set_cons_succ]
      refine wpAnyH_take (i := 11) (v := ?_) (oi := { dst := some 34, op := _, type := _, pos := _, after := _, guard := none }) rfl (by kernel_rfl) (by kernel_rfl) (by kernel_rfl) (fun _ _ _ h => h) (Or.inl ⟨by kernel_rfl, ?_⟩) (by assumption) ?_
      case refine_2 => (intro w9 hSw; clear hSw; go_simp; try with_reducible rfl)
      simp only [Act.put, List.setIfInBounds_toArray, List.set_cons_zero, List.set_cons_succ]
      refine wpAnyH_take (i := 12) (v := ?_) (oi := { dst := some 9, op := _, type := _, pos := _, after := _, guard := none }) rfl (by kernel_rfl) (by kernel_rfl) (by kernel_rfl) (fun _ _ _ h => h) (Or.inl ⟨by kernel_rfl, ?_⟩) (by assumption) ?_
      case refine_2 => (intro w9 hSw; clear hSw; go_simp; try with_reducible rfl)
      simp only [Act.put, List.setIfInBounds_toArray, List.set_cons_zero, List.set_cons_succ]
      refine wpAnyH_take (i := 13) (v := ?_) (oi := { dst := some 10, op := _, type := _, pos := _, after := _, guard := none }) rfl (by kernel_rfl) (by kernel_rfl) (by kernel_rfl) (fun _ _ _ h => h) (Or.inl ⟨by kernel_rfl, ?_⟩) (by assumption) ?_
      case refine_2 => (intro w9 hSw; clear hSw; go_simp; try with_reducible rfl)
      simp only [Act.put, List.setIfInBounds_toArray, List.set_cons_zero, List.set_cons_succ]
      refine wpAnyH_done (by kernel_rfl) ?_ _
      have HB7 : Hid (BelR wr _) := hHeld
      clear hHeld BR
      have HB8 : Hid (Below w.heap.size w v1) := HB.out.trans (Below.mono HB7.out HB.out.size)
      have HO7 : Hid (v1.ownsRow w.heap.size 20 1 u6 k l) := own_keep HO.out (fun k _ hk => Below.block HB7.out k hk)
      clear HB HO HB7 hcF hcR hna hme hcf HC
      cases b with
      | false =>
        have HE : G = none := by rw [← HD.out]; rfl
        subst HE
        clear HD HO7
        go_wp2_with fail
        go_ret2
        exact ⟨HB8.out, rfl⟩
      | true =>
        have HE2 : Hid (rdL (rs.drop (k + 1)) (l ++ [Value.iface xT xv]) = G) := by show _ = _; rw [← HD.out]; rfl
        clear HD
        have hmx : k + 1 ≤ 16 := by omega
        rcases HO7.out.2 with ⟨e5, -⟩ | ⟨g5, cap5, cur5, e5, _, _, _, _, _, _⟩
        all_goals
          subst e5
          go_wp2_with (first
          | (at_builtin; refine wpList_append_own _ rfl _ _ 120 rfl w.heap.size 20 i0 .nilIface 1 16 Tryz.underlying120 hi hz0 hz1 hz2 rfl (by decide) _ k l rfl (HO7.out.alloc _) ⟨v1.heap.size, 0, none⟩ 1 1 [.iface xT xv] rfl rfl (one_newB _ _ _) (by intro y hy; simp at hy; rw [hy]; rfl) (by unfold maxLen; omega) (by omega) (by have := HB8.out.size; simp; omega) ?_; intro v' w3 hown' hgrow3 hnil3
             have HJ : Hid (w3.ownsRow w.heap.size 20 1 v' (k + 1) (l ++ [Value.iface xT xv]) ∧ Below w.heap.size w w3) := ⟨hown', Below.grown (HB8.out.alloc HB8.out.size _) hgrow3 (by have := HB8.out.size; simp; omega) (fun k hk => by have := (HO7.out.lt _ hk).1; omega)⟩
             clear hown' hgrow3 hnil3))
          go_roundw
          case rel => exact ⟨k + 1, l ++ [Value.iface xT xv], by omega, by go_num, by rw [List.length_append]; show _ + 1 = _; omega, HJ.out.1, HE2, HJ.out.2⟩
          case measure => simp [intOf]; omega
    · have hkN' : ¬ (k : Int) < (N : Int) := by omega
      have hkk : k = N := by omega
      have HE : G = some l := by
        rw [← HG.out, List.drop_of_length_le (by rw [HN.out]; omega)]; rfl
      subst HE
      have HOf : Hid (wr.ownsRow w.heap.size 20 1 u6 l.length l) := by have := HO.out; rw [← hlk] at this; exact this
      clear HG HO hkk
      go_wp2_with fail
      go_ret2
      exact ⟨HB.out, _, rfl, HOf.out⟩

end Go.Proofs.YthhpdjjfbfkgiaaGreatDoor
/- Contract of the reference's one: a line's fields, or that it can not be; its machine and the program's come to the same. -/
namespace Go.Proofs.YthhpdjjfbfkgiaaGreatDoor.Lin
open Go.RowKit
set_option linter.unusedVariables false

end Go.Proofs.YthhpdjjfbfkgiaaGreatDoor.Lin
/- Contracts: src.isLetter, src.isDigit, letterReader.read. -/
namespace Go.Proofs.YthhpdjjfbfkgiaaGreatDoor
open Go.RowKit Lin
set_option linter.unusedVariables false

def isL (R : Int) : Bool := decide (97 ≤ R ∧ R ≤ 122) || decide (65 ≤ R ∧ R ≤ 90)
def isD (R : Int) : Bool := decide (48 ≤ R ∧ R ≤ 57)
theorem ret_bl {a b : Bool} (h : a = b) : Ending.returned (.bool a) = .returned (.bool b) := by rw [h]

set_option maxRecDepth 100000 in
set_option maxHeartbeats 4000000 in
theorem srLetter_any (R : Int) (w : World) : Calls Tryz.prog 97 #[.int .i32 R] w fun e w' => e = .returned (.bool (isL R)) ∧ w' = w := by
  go_enter Tryz.func97, Tryz.ntmps97
  go_wp2
  all_goals (go_ret; exact ⟨ret_bl (by unfold isL; by_cases a1 : 97 ≤ R <;> by_cases a2 : R ≤ 122 <;> by_cases a3 : 65 ≤ R <;> by_cases a4 : R ≤ 90 <;> simp_all <;> omega), rfl⟩)

set_option maxRecDepth 100000 in
set_option maxHeartbeats 4000000 in
theorem srDigit_any (R : Int) (w : World) : Calls Tryz.prog 95 #[.int .i32 R] w fun e w' => e = .returned (.bool (isD R)) ∧ w' = w := by
  go_enter Tryz.func95, Tryz.ntmps95
  go_wp2
  all_goals (go_ret; exact ⟨ret_bl (by simp [isD] <;> omega), rfl⟩)

/-- a letter or a digit. -/
def isLD (R : Int) : Bool := isL R || isD R
theorem isLD_high {R : Int} (h : 128 ≤ R) : isLD R = false := by simp [isLD, isL, isD]; omega
def allLD (l : List UInt8) : Bool := l.all fun c => isLD (c.toNat : Int)
def ltrO (s : ByteArray) : ByteArray × Bool :=
  if s.toList = [45] then (⟨#[]⟩, true) else if allLD s.data.toList = true then (s, decide (s.size ≠ 0) && decide (s.size ≤ 8)) else (⟨#[]⟩, false)

theorem drop_cons {s : ByteArray} {k : Nat} (h : k < s.size) : ∃ c : UInt8, s.data.toList.drop k = c :: s.data.toList.drop (k + 1) ∧ s[k]'h = c := by
  refine ⟨s[k]'h, ?_, rfl⟩
  rw [List.drop_eq_getElem_cons (by simpa using h)]
  rfl

set_option maxRecDepth 1000000 in
set_option maxHeartbeats 8000000 in
theorem letterR (s : ByteArray) (w : World) :
    Calls Tryz.prog 139 #[.agg #[], .string s] w fun e w' => e = .returned (.tuple #[.iface 9 (.string (ltrO s).1), .bool (ltrO s).2]) ∧ Below w.heap.size w w' := by
  by_cases h45 : s.toList = [45]
  · have e : ltrO s = (⟨#[]⟩, true) := by unfold ltrO; rw [if_pos h45]
    rw [e]
    have h45' : (s.toList == [45]) = true := by rw [h45]; rfl
    clear e h45
    go_enter Tryz.func139, Tryz.ntmps139
    go_wp2
    go_ret2
    exact ⟨rfl, NBs (Below.refl _ _)⟩
  · have h45' : (s.toList == [45]) = false := beq_eq_false_iff_ne.2 h45
    obtain ⟨G, hG⟩ : ∃ G, ltrO s = G := ⟨_, rfl⟩
    rw [hG]
    have HG : Hid ((if allLD (s.data.toList.drop 0) = true then (s, decide (s.size ≠ 0) && decide (s.size ≤ 8)) else (⟨#[]⟩, false)) = G) := by
      show _ = _
      rw [← hG]; unfold ltrO; rw [if_neg h45]; rfl
    clear hG h45
    go_enter Tryz.func139, Tryz.ntmps139
    go_wp2_with fail
    go_loopw [] (fun wr => ∃ pos : Nat, pos ≤ s.size ∧ Hid (wr.heap[w.heap.size + 1]? = some (.stringIter s pos)) ∧ Hid ((if allLD (s.data.toList.drop pos) = true then (s, decide (s.size ≠ 0) && decide (s.size ≤ 8)) else (⟨#[]⟩, false)) = G) ∧ Hid (Below w.heap.size w wr)) (fun wr => s.size - wr.iterPos (w.heap.size + 1))
    case atStart =>
      refine ⟨0, Nat.zero_le _, ?_, HG, ?_⟩
      · have := World.iter_heap (w.alloc (.cells #[] 141)) s 0
        simp only [World.size_alloc] at this
        exact this
      · exact ((Below.refl _ _).alloc (Nat.le_refl _) _).alloc (by simp) _
    case round =>
      clear HG
      obtain ⟨pos, hle, HI, HG, HB⟩ := hrel
      have hpos0 : Hid (wr.iterPos (w.heap.size + 1) = pos) := iterPos_at HI.out
      by_cases hp : pos < s.size
      · obtain ⟨c, hc1, hc2⟩ := drop_cons hp
        rw [hc1] at HG
        by_cases hasc : c.toNat < 128
        · have hnx : ∀ ty, (Instr.next (.pointer (some ⟨w.heap.size + 1, 0, none⟩)) true ty).run Tryz.prog wr = _ := fun ty => Lib.run_next_ascii_at wr (w.heap.size + 1) s pos ty HI.out hp (by rw [hc2]; exact hasc)
          rw [hc2] at hnx
          have HI1 : Hid ((wr.iterAt (w.heap.size + 1) s (pos + 1)).heap[w.heap.size + 1]? = some (.stringIter s (pos + 1))) := Lib.iterAt_heap wr (w.heap.size + 1) s pos (pos + 1) HI.out
          have HB1 : Hid (Below w.heap.size w (wr.iterAt (w.heap.size + 1) s (pos + 1))) := Lib.below_iterAt HB.out (k := w.heap.size + 1) (by omega) s (pos + 1)
          obtain ⟨C, hC⟩ : ∃ C : Int, (c.toNat : Int) = C := ⟨_, rfl⟩
          have HE : Hid ((if (isLD C && allLD (s.data.toList.drop (pos + 1))) = true then (s, decide (s.size ≠ 0) && decide (s.size ≤ 8)) else (⟨#[]⟩, false)) = G) := by
            show _ = _
            rw [← HG.out, ← hC]; rfl
          rw [hC] at hnx
          clear HG HI HB hc1 hc2 hC hasc
          generalize wr.iterAt (w.heap.size + 1) s (pos + 1) = w1 at *
          have HL : Hid (∀ w : World, Calls Tryz.prog 97 #[.int .i32 C] w fun e w' => e = .returned (.bool (isL C)) ∧ w' = w) := srLetter_any C
          have HD : Hid (∀ w : World, Calls Tryz.prog 95 #[.int .i32 C] w fun e w' => e = .returned (.bool (isD C)) ∧ w' = w) := srDigit_any C
          unfold isLD at HE
          generalize isL C = b1 at *
          generalize isD C = b2 at *
          cases b1 with
          | true =>
            go_wp2_with fail
            refine (HL.out _).mono ?_
            rintro e w2 ⟨rfl, hw2⟩
            obtain rfl := hw2.symm
            clear hw2
            go_wp2_with fail
            go_roundw
            case rel => exact ⟨pos + 1, by omega, HI1, HE, HB1⟩
            case measure => rw [hpos0.out, iterPos_at HI1.out]; omega
          | false =>
            go_wp2_with fail
            refine (HL.out _).mono ?_
            rintro e w2 ⟨rfl, hw2⟩
            obtain rfl := hw2.symm
            clear hw2
            cases b2 with
            | true =>
              go_wp2_with fail
              refine (HD.out _).mono ?_
              rintro e w2 ⟨rfl, hw2⟩
              obtain rfl := hw2.symm
              clear hw2
              go_wp2_with fail
              go_roundw
              case rel => exact ⟨pos + 1, by omega, HI1, HE, HB1⟩
              case measure => rw [hpos0.out, iterPos_at HI1.out]; omega
            | false =>
              go_wp2_with fail
              refine (HD.out _).mono ?_
              rintro e w2 ⟨rfl, hw2⟩
              obtain rfl := hw2.symm
              clear hw2
              have HE2 : G = (⟨#[]⟩, false) := HE.out.symm
              subst HE2
              go_wp2_with fail
              go_ret2
              exact ⟨rfl, HB1.out⟩
        · have hd := (decode_high s pos hp (by rw [hc2]; omega)).1
          have hnx : ∀ ty, (Instr.next (.pointer (some ⟨w.heap.size + 1, 0, none⟩)) true ty).run Tryz.prog wr = _ := fun ty => Lib.run_next_any_at wr (w.heap.size + 1) s pos ty HI.out hp
          have HB1 : Hid (Below w.heap.size w (wr.iterAt (w.heap.size + 1) s (pos + (Utf8.decode s pos).2))) := Lib.below_iterAt HB.out (k := w.heap.size + 1) (by omega) s _
          have HE2 : G = (⟨#[]⟩, false) := by
            rw [← HG.out]
            have : isLD (c.toNat : Int) = false := isLD_high (by omega)
            simp [allLD, this]
          subst HE2
          obtain ⟨R, hR⟩ : ∃ R : Int, ((Utf8.decode s pos).1 : Int) = R := ⟨_, rfl⟩
          have hR2 : isLD R = false := isLD_high (by omega)
          rw [hR] at hnx
          have HL : Hid (∀ w : World, Calls Tryz.prog 97 #[.int .i32 R] w fun e w' => e = .returned (.bool false) ∧ w' = w) := fun w => by
            have := srLetter_any R w
            rwa [show isL R = false by simp [isLD] at hR2; exact hR2.1] at this
          have HD : Hid (∀ w : World, Calls Tryz.prog 95 #[.int .i32 R] w fun e w' => e = .returned (.bool false) ∧ w' = w) := fun w => by
            have := srDigit_any R w
            rwa [show isD R = false by simp [isLD] at hR2; exact hR2.2] at this
          clear HG HI HB hc1 hc2 hR hasc hd hR2
          generalize wr.iterAt (w.heap.size + 1) s (pos + (Utf8.decode s pos).2) = w1 at *
          go_wp2_with fail
          refine (HL.out _).mono ?_
          rintro e w2 ⟨rfl, hw2⟩
          obtain rfl := hw2.symm
          clear hw2
          go_wp2_with fail
          refine (HD.out _).mono ?_
          rintro e w2 ⟨rfl, hw2⟩
          obtain rfl := hw2.symm
          clear hw2
          go_wp2_with fail
          go_ret2
          exact ⟨rfl, HB1.out⟩
      · have hnx : ∀ ty, (Instr.next (.pointer (some ⟨w.heap.size + 1, 0, none⟩)) true ty).run Tryz.prog wr = _ := fun ty => Lib.run_next_end_at wr (w.heap.size + 1) s pos ty HI.out hp
        have HE : G = (s, decide (s.size ≠ 0) && decide (s.size ≤ 8)) := by
          rw [← HG.out, List.drop_of_length_le (by simp; omega)]; rfl
        subst HE
        clear HG HI
        by_cases h0 : s.size = 0
        · have hs0 : s = ⟨#[]⟩ := by apply ByteArray.ext; exact Array.eq_empty_of_size_eq_zero h0
          subst hs0
          go_wp2_with fail
          go_ret2
          exact ⟨rfl, HB.out⟩
        · have hs0 : s.toList.isEmpty = false := by rw [ByteArray.toList_eq s, List.isEmpty_eq_false_iff]; intro e; exact h0 (by show s.data.size = 0; rw [← Array.length_toList, e]; rfl)
          have fin : ∀ b : Bool, b = (decide (s.size ≠ 0) && decide (s.size ≤ 8)) → Ending.returned (.tuple #[.iface 9 (.string s), .bool b]) = .returned (.tuple #[.iface 9 (.string s), .bool (decide (s.size ≠ 0) && decide (s.size ≤ 8))]) := fun b h => by rw [h]
          go_wp2_with fail
          go_ret2
          exact ⟨fin _ (by simp [h0]; omega), HB.out⟩

end Go.Proofs.YthhpdjjfbfkgiaaGreatDoor
/- Plain mathematics of the parts of a text: which part a rune is of, and what comes of a text rune by rune. -/
namespace Go.Proofs.YthhpdjjfbfkgiaaGreatDoor.Wrd
set_option linter.unusedVariables false

/-- the byte at a place. -/
def bt (s : ByteArray) (i : Nat) : Nat := (s.get! i).toNat

/-- a rune is one byte; or broken; or two to four bytes, all of them above 127. -/
theorem dec_shape (s : ByteArray) (pos : Nat) (h : pos < s.size) :
    (bt s pos < 128 ∧ Utf8.decode s pos = (bt s pos, 1)) ∨
    (128 ≤ bt s pos ∧ Utf8.decode s pos = (65533, 1)) ∨
    (128 ≤ bt s pos ∧ 2 ≤ (Utf8.decode s pos).2 ∧ (Utf8.decode s pos).2 ≤ 4 ∧ pos + (Utf8.decode s pos).2 ≤ s.size ∧ 128 ≤ (Utf8.decode s pos).1 ∧
      (∀ j, 1 ≤ j → j < (Utf8.decode s pos).2 → 128 ≤ bt s (pos + j)) ∧ Lib.runeLen ((Utf8.decode s pos).1 : Int) = ((Utf8.decode s pos).2 : Int)) := by
  have h0 : bt s pos < 256 := UInt8.toNat_lt _
  have h1 : bt s (pos + 1) < 256 := UInt8.toNat_lt _
  have h2 : bt s (pos + 2) < 256 := UInt8.toNat_lt _
  have h3 : bt s (pos + 3) < 256 := UInt8.toNat_lt _
  have e := Lib.decode_at s pos
  change Utf8.decode s pos = Lib.decodeN (s.size - pos) (bt s pos) (bt s (pos + 1)) (bt s (pos + 2)) (bt s (pos + 3)) at e
  rcases Lib.decodeN_shape (s.size - pos) (bt s pos) (bt s (pos + 1)) (bt s (pos + 2)) (bt s (pos + 3)) with ⟨c, q⟩ | ⟨c1, c2, c3, cv, q⟩ | ⟨c1, c2, c3, c4, cv, cs, q⟩ | ⟨c1, c2, c3, c4, c5, cv, cw, q⟩ | q
  · exact .inl ⟨c, e.trans q⟩
  · rw [e, q]
    refine .inr (.inr ⟨by omega, by simp, by simp, by simp; omega, by simp; omega, ?_, ?_⟩)
    · intro j a b
      obtain rfl : j = 1 := by simp at b; omega
      omega
    · unfold Lib.runeLen; dsimp only; repeat' split
      all_goals omega
  · rw [e, q]
    refine .inr (.inr ⟨by omega, by simp, by simp, by simp; omega, by simp; omega, ?_, ?_⟩)
    · intro j a b
      have : j = 1 ∨ j = 2 := by simp at b; omega
      rcases this with rfl | rfl <;> omega
    · unfold Lib.runeLen; dsimp only; repeat' split
      all_goals omega
  · rw [e, q]
    refine .inr (.inr ⟨by omega, by simp, by simp, by simp; omega, by simp; omega, ?_, ?_⟩)
    · intro j a b
      have : j = 1 ∨ j = 2 ∨ j = 3 := by simp at b; omega
      rcases this with rfl | rfl | rfl <;> omega
    · unfold Lib.runeLen; dsimp only; repeat' split
      all_goals omega
  · by_cases c : bt s pos < 128
    · refine .inl ⟨c, ?_⟩
      rw [e]; unfold Lib.decodeN; rw [if_pos c]
    · exact .inr (.inl ⟨by omega, e.trans q⟩)

/-- which part a rune of so many bytes is of: 0 none, -1 of no text that is right. -/
def kindW (R : Int) (wd : Nat) : Int :=
  if R = 32 ∨ R = 9 ∨ R = 10 ∨ R = 13 then 0
  else if R < 32 ∨ R = 127 then -1
  else if 48 ≤ R ∧ R ≤ 57 then 1
  else if R = 65533 then (if wd = 1 then -1 else 2)
  else if 127 < R ∨ R = 95 ∨ (97 ≤ R ∧ R ≤ 122) ∨ (65 ≤ R ∧ R ≤ 90) then 2
  else 3
/-- the same at a place of a text. -/
def kindP (s : ByteArray) (pos : Nat) : Int := kindW ((Utf8.decode s pos).1 : Int) (Utf8.decode s pos).2

theorem wd_pos (s : ByteArray) (pos : Nat) : 1 ≤ (Utf8.decode s pos).2 := Lib.width_pos s pos
theorem wd_le (s : ByteArray) (pos : Nat) (h : pos < s.size) : pos + (Utf8.decode s pos).2 ≤ s.size := by
  rcases dec_shape s pos h with ⟨_, e⟩ | ⟨_, e⟩ | ⟨_, _, _, e, _⟩
  · rw [e]; simp only; omega
  · rw [e]; simp only; omega
  · exact e
/-- a part: its kind, its first place, the place behind it. -/
abbrev Prt := Int × Nat × Nat

/-- what comes of a text, from a place on: the place where it is not right, or all parts. -/
def splitF (s : ByteArray) : Nat → Nat → List Prt → Int → Sum Nat (List Prt)
  | 0, _, l, _ => .inr l
  | f + 1, pos, l, a =>
    if pos < s.size then
      if kindP s pos = -1 then .inl pos
      else if kindP s pos = 0 then splitF s f (pos + (Utf8.decode s pos).2) l 0
      else if kindP s pos = 3 ∨ kindP s pos ≠ a then splitF s f (pos + (Utf8.decode s pos).2) (l ++ [(kindP s pos, pos, pos + (Utf8.decode s pos).2)]) (kindP s pos)
      else splitF s f (pos + (Utf8.decode s pos).2) (l.dropLast ++ [((l.getLast?.getD (0, 0, 0)).1, (l.getLast?.getD (0, 0, 0)).2.1, pos + (Utf8.decode s pos).2)]) (kindP s pos)
    else .inr l
/-- the whole of it. -/
def splitB (s : ByteArray) : Sum Nat (List Prt) := splitF s s.size 0 [] 0

end Go.Proofs.YthhpdjjfbfkgiaaGreatDoor.Wrd
/- Contract: src.Name. -/
namespace Go.Proofs.YthhpdjjfbfkgiaaGreatDoor
open Go.RowKit Lin
set_option linter.unusedVariables false

/-- one of the four signs that a name may bear. -/
def isP (R : Int) : Bool := decide (R = 95) || decide (R = 45) || decide (R = 43) || decide (R = 47)
def nmC (i : Nat) (R : Int) : Bool := isL R || (decide (i ≠ 0) && (isD R || isP R))
theorem nmC_high {R : Int} (h : 128 ≤ R) (i : Nat) : nmC i R = false := by simp [nmC, isL, isD, isP]; omega
def nmF : Nat → List UInt8 → Bool
  | _, [] => true
  | i, c :: l => nmC i (c.toNat : Int) && nmF (i + 1) l
def nameB (s : ByteArray) : Bool := nmF 0 s.data.toList && (decide (s.size ≠ 0) && decide (s.size ≤ 32))
/-- what ContainsRune says of a sign below B. -/
def CRune (B : Int) : Prop := ∀ (R : Int) (w : World), 0 ≤ R → R < B → Calls Tryz.prog 98 #[.string ⟨#[95, 45, 43, 47]⟩, .int .i32 R] w fun e w' => e = .returned (.bool (isP R)) ∧ Below w.heap.size w w'

set_option maxRecDepth 1000000 in
set_option maxHeartbeats 8000000 in
theorem name_any (s : ByteArray) (B : Int) (HCR : Hid (CRune B)) (hsB : Hid (∀ pos, pos < s.size → ((Utf8.decode s pos).1 : Int) < B)) (hs9 : s.size ≤ maxLen) (w : World) :
    Calls Tryz.prog 96 #[.string s] w fun e w' => e = .returned (.bool (nameB s)) ∧ Below w.heap.size w w' := by
  unfold maxLen at hs9
  obtain ⟨G, hG⟩ : ∃ G, nameB s = G := ⟨_, rfl⟩
  rw [hG]
  have HG : Hid ((nmF 0 (s.data.toList.drop 0) && (decide (s.size ≠ 0) && decide (s.size ≤ 32))) = G) := hG
  clear hG
  go_enter Tryz.func96, Tryz.ntmps96
  go_wp2_with fail
  go_loopw [] (fun wr => ∃ pos : Nat, pos ≤ s.size ∧ Hid (wr.heap[w.heap.size]? = some (.stringIter s pos)) ∧ Hid ((nmF pos (s.data.toList.drop pos) && (decide (s.size ≠ 0) && decide (s.size ≤ 32))) = G) ∧ Hid (Below w.heap.size w wr)) (fun wr => s.size - wr.iterPos w.heap.size)
  case atStart => exact ⟨0, Nat.zero_le _, World.iter_heap w s 0, HG, (Below.refl _ _).alloc (Nat.le_refl _) _⟩
  case round =>
    clear HG
    obtain ⟨pos, hle, HI, HG, HB⟩ := hrel
    have hpos0 : Hid (wr.iterPos w.heap.size = pos) := iterPos_at HI.out
    by_cases hp : pos < s.size
    · obtain ⟨c, hc1, hc2⟩ := drop_cons hp
      rw [hc1] at HG
      have hltI : w.heap.size < wr.heap.size := (Array.getElem?_eq_some_iff.1 HI.out).1
      have hRB := hsB.out pos hp
      obtain ⟨R, W1, pos2, hnx, HI1, HB1, HE, R0, RB, hpp⟩ : ∃ (R : Int) (W1 : World) (pos2 : Nat), (∀ ty, (Instr.next (.pointer (some ⟨w.heap.size, 0, none⟩)) true ty).run Tryz.prog wr = .ok (.tuple #[.bool true, .int .i64 (pos : Int), .int .i32 R]) W1) ∧ Hid (W1.heap[w.heap.size]? = some (.stringIter s pos2)) ∧ Hid (Below w.heap.size w W1) ∧ Hid ((nmC pos R && (nmF pos2 (s.data.toList.drop pos2) && (decide (s.size ≠ 0) && decide (s.size ≤ 32)))) = G) ∧ 0 ≤ R ∧ R < B ∧ pos < pos2 ∧ pos2 ≤ s.size := by
        by_cases hasc : c.toNat < 128
        · refine ⟨(c.toNat : Int), wr.iterAt w.heap.size s (pos + 1), pos + 1, ?_, Lib.iterAt_heap wr w.heap.size s pos (pos + 1) HI.out, Lib.below_iterAt HB.out (k := w.heap.size) (Nat.le_refl _) s (pos + 1), ?_, by omega, ?_, by omega, by omega⟩
          · intro ty
            have := Lib.run_next_ascii_at (P := Tryz.prog) wr w.heap.size s pos ty HI.out hp (by rw [hc2]; exact hasc)
            rw [hc2] at this
            exact this
          · show _ = _
            rw [← HG.out, nmF, Bool.and_assoc]
          · have := decode_ascii s pos hp (by rw [hc2]; exact hasc)
            rw [this, hc2] at hRB
            exact hRB
        · have hd := (decode_high s pos hp (by rw [hc2]; omega)).1
          refine ⟨((Utf8.decode s pos).1 : Int), wr.iterAt w.heap.size s (pos + (Utf8.decode s pos).2), pos + (Utf8.decode s pos).2, ?_, Lib.iterAt_heap wr w.heap.size s pos _ HI.out, Lib.below_iterAt HB.out (k := w.heap.size) (Nat.le_refl _) s _, ?_, by omega, hRB, ?_, ?_⟩
          · intro ty
            exact Lib.run_next_any_at wr w.heap.size s pos ty HI.out hp
          · show _ = _
            rw [← HG.out, nmF, nmC_high (by omega), nmC_high (by omega)]; rfl
          · have := Wrd.wd_pos s pos; omega
          · exact Wrd.wd_le s pos hp
      clear HG HI HB hc1 hc2 hRB
      have HL : Hid (∀ w : World, Calls Tryz.prog 97 #[.int .i32 R] w fun e w' => e = .returned (.bool (isL R)) ∧ w' = w) := srLetter_any R
      have HD : Hid (∀ w : World, Calls Tryz.prog 95 #[.int .i32 R] w fun e w' => e = .returned (.bool (isD R)) ∧ w' = w) := srDigit_any R
      have HP : Hid (∀ w : World, Calls Tryz.prog 98 #[.string ⟨#[95, 45, 43, 47]⟩, .int .i32 R] w fun e w' => e = .returned (.bool (isP R)) ∧ Below w.heap.size w w') := fun w => HCR.out R w R0 RB
      unfold nmC at HE
      generalize isL R = b1 at *
      generalize isD R = b2 at *
      generalize isP R = b3 at *
      cases b1 with
      | true =>
        go_wp2_with fail
        refine (HL.out _).mono ?_
        rintro e w2 ⟨rfl, hw2⟩
        obtain rfl := hw2.symm
        clear hw2
        have HE : Hid ((nmF pos2 (s.data.toList.drop pos2) && (decide (s.size ≠ 0) && decide (s.size ≤ 32))) = G) := HE
        go_wp2_with fail
        go_roundw
        case rel => exact ⟨pos2, hpp.2, HI1, HE, HB1⟩
        case measure => rw [hpos0.out, iterPos_at HI1.out]; omega
      | false =>
        go_wp2_with fail
        refine (HL.out _).mono ?_
        rintro e w2 ⟨rfl, hw2⟩
        obtain rfl := hw2.symm
        clear hw2
        by_cases hp0 : pos = 0
        · subst hp0
          have HE2 : G = false := HE.out.symm
          subst HE2
          go_wp2_with fail
          go_ret
          exact ⟨rfl, HB1.out⟩
        · have hp0' : ((pos : Int) == 0) = false := by rw [beq_eq_false_iff_ne]; omega
          have hd0 : decide (pos ≠ 0) = true := by simp [hp0]
          rw [hd0] at HE
          cases b2 with
          | true =>
            go_wp2_with fail
            refine (HD.out _).mono ?_
            rintro e w2 ⟨rfl, hw2⟩
            obtain rfl := hw2.symm
            clear hw2
            have HE : Hid ((nmF pos2 (s.data.toList.drop pos2) && (decide (s.size ≠ 0) && decide (s.size ≤ 32))) = G) := HE
            go_wp2_with fail
            go_roundw
            case rel => exact ⟨pos2, hpp.2, HI1, HE, HB1⟩
            case measure => rw [hpos0.out, iterPos_at HI1.out]; omega
          | false =>
            go_wp2_with fail
            refine (HD.out _).mono ?_
            rintro e w2 ⟨rfl, hw2⟩
            obtain rfl := hw2.symm
            clear hw2
            go_wp2_with fail
            refine (HP.out _).mono ?_
            rintro e w2 ⟨rfl, hb2⟩
            have HB2 : Hid (Below w.heap.size w w2) := HB1.out.trans (hb2.mono HB1.out.size)
            have HI2 : Hid (w2.heap[w.heap.size]? = some (.stringIter s pos2)) := (hb2.block _ (Array.getElem?_eq_some_iff.1 HI1.out).1).trans HI1.out
            clear hb2
            cases b3 with
            | true =>
              have HE : Hid ((nmF pos2 (s.data.toList.drop pos2) && (decide (s.size ≠ 0) && decide (s.size ≤ 32))) = G) := HE
              go_wp2_with fail
              go_roundw
              case rel => exact ⟨pos2, hpp.2, HI2, HE, HB2⟩
              case measure => rw [hpos0.out, iterPos_at HI2.out]; omega
            | false =>
              have HE2 : G = false := HE.out.symm
              subst HE2
              go_wp2_with fail
              go_ret
              exact ⟨rfl, HB2.out⟩
    · have hnx : ∀ ty, (Instr.next (.pointer (some ⟨w.heap.size, 0, none⟩)) true ty).run Tryz.prog wr = _ := fun ty => Lib.run_next_end_at wr w.heap.size s pos ty HI.out hp
      have HE : G = (decide (s.size ≠ 0) && decide (s.size ≤ 32)) := by
        rw [← HG.out, List.drop_of_length_le (by simp; omega)]; rfl
      clear HG HI
      by_cases h0 : s.size = 0
      · have hs0 : s = ⟨#[]⟩ := by apply ByteArray.ext; exact Array.eq_empty_of_size_eq_zero h0
        subst hs0
        have HE2 : G = false := HE
        subst HE2
        clear HE
        go_wp2_with fail
        go_ret
        exact ⟨rfl, HB.out⟩
      · have hs0 : s.toList.isEmpty = false := by rw [ByteArray.toList_eq s, List.isEmpty_eq_false_iff]; intro e; exact h0 (by show s.data.size = 0; rw [← Array.length_toList, e]; rfl)
        have fin : ∀ b : Bool, b = (decide (s.size ≠ 0) && decide (s.size ≤ 32)) → Ending.returned (.bool b) = .returned (.bool (decide (s.size ≠ 0) && decide (s.size ≤ 32))) := fun b h => by rw [h]
        subst HE
        go_wp2_with fail
        go_ret
        exact ⟨fin _ (by simp [h0]; omega), HB.out⟩

end Go.Proofs.YthhpdjjfbfkgiaaGreatDoor
