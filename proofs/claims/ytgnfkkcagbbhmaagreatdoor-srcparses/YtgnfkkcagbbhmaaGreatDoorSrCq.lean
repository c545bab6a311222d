/- Contract: src.readAll, over a list of readers. -/
import Derived.Test.YtgnfkkcagbbhmaaGreatDoorSrBq
import Derived.Test.YtgnfkkcagbbhmaaGreatDoorLnAq
namespace Go.Proofs.YtgnfkkcagbbhmaaGreatDoor
open Go.RowKit Lin
set_option linter.unusedVariables false

def BelR (w : World) (W : World) : Prop := Below w.heap.size w W
theorem BelR.below {w W W1 : World} (h : BelR w W) (hb : Below W.heap.size W W1) : BelR w W1 := Below.trans h (hb.mono (Below.size h))
theorem BelR.drew {w W : World} (h : BelR w W) : BelR w W.drew := Below.drew h

/-- a reader, its method, the field that it reads, what it answers. -/
structure Rdr where
  T : TypeId
  v : Value
  K : Nat
  f : ByteArray
  xT : TypeId
  xv : Value
  b : Bool
/-- what it tells. -/
abbrev Rdr.x (r : Rdr) : Value := .iface r.xT r.xv
/-- what is known of it. -/
def Rdr.ok (r : Rdr) : Prop :=
  (∀ w : World, (nilAhead 384 r.T r.v "computus/src.read").run Tryz.prog w = .ok (some false) w) ∧ (∀ w : World, (method 384 r.T r.v "computus/src.read").run Tryz.prog w = .ok (r.K, r.v) w) ∧
  (∀ w : World, Calls Tryz.prog r.K #[r.v, .string r.f] w fun e w' => e = .returned (.tuple #[.iface r.xT r.xv, .bool r.b]) ∧ Below w.heap.size w w') ∧
  ∀ (a : Array Value) (w : World), (callFunc r.K a).run Tryz.prog w = .ok (.enter r.K a) w
def rdL : List Rdr → List Value → Option (List Value)
  | [], acc => some acc
  | r :: l, acc => if r.b = true then rdL l (acc ++ [r.x]) else none
def ReadIs (w : World) (e : Ending) (w' : World) : Option (List Value) → Prop
  | none => e = .returned (.tuple #[.slice none 0 0, .bool false])
  | some L => ∃ v, e = .returned (.tuple #[v, .bool true]) ∧ w'.ownsRow w.heap.size 20 1 v L.length L
theorem infoAny : (Tryz.prog.info? 20).map (fun i => (i.zero, i.size, i.bytes)) = some (some .nilIface, 1, 16) := by kernel_rfl
theorem one_newB (w : World) (a : Value) (t : TypeId) : ∀ j u, [a][j]? = some u → (w.alloc (.cells #[a] t)).cell? ((⟨w.heap.size, 0, none⟩ : Addr).add j) = some u := by
  intro j u hj
  match j, hj with
  | 0, hj => simp at hj; subst hj; simp [Addr.add]
  | j + 1, hj => simp at hj

set_option maxRecDepth 100000 in
set_option maxHeartbeats 4000000 in
theorem readAll_len (a b : Option Addr) (n c m d : Nat) (h : n ≠ m) (w : World) :
    Calls Tryz.prog 109 #[.slice a n c, .slice b m d] w fun e w' => e = .returned (.tuple #[.slice none 0 0, .bool false]) ∧ Below w.heap.size w w' := by
  have h' : ((n : Int) != (m : Int)) = true := by simp; omega
  go_enter Tryz.func109, Tryz.ntmps109
  go_wp2
  go_ret2
  exact ⟨rfl, Below.refl _ _⟩

set_option maxRecDepth 1000000 in
set_option maxHeartbeats 8000000 in
theorem readAll_any (rs : List Rdr) (N : Nat) (hN : rs.length = N) (g o g2 o2 c c2 : Nat) (w : World) (HK : Hid (∀ r ∈ rs, r.ok)) (hg : g < w.heap.size) (hg2 : g2 < w.heap.size) (hn : N ≤ 16)
    (HF : Hid (∀ j r, rs[j]? = some r → w.cell? ⟨g, o + j, none⟩ = some (.string r.f))) (HR : Hid (∀ j r, rs[j]? = some r → w.cell? ⟨g2, o2 + j, none⟩ = some (.iface r.T r.v))) (hc : N ≤ c) (hc2 : N ≤ c2) :
    Calls Tryz.prog 109 #[.slice (some ⟨g, o, none⟩) N c, .slice (some ⟨g2, o2, none⟩) N c2] w fun e w' => Below w.heap.size w w' ∧ ReadIs w e w' (rdL rs []) := by
  obtain ⟨i0, hi, hz0, hz1, hz2⟩ := info_parts infoAny
  obtain ⟨G, hG⟩ : ∃ G, rdL rs [] = G := ⟨_, rfl⟩
  rw [hG]
  have HG0 : Hid (rdL rs [] = G) := hG
  have HN : Hid (rs.length = N) := hN
  clear hG hN
  go_enter Tryz.func109, Tryz.ntmps109
  go_wp2_with fail
  go_loopw [6, 18] (fun v i wr => ∃ (k : Nat) (l : List Value), k ≤ N ∧ i = .int .i64 (k : Int) ∧ l.length = k ∧ Hid (wr.ownsRow w.heap.size 20 1 v k l) ∧ Hid (rdL (rs.drop k) l = G) ∧ Hid (Below w.heap.size w wr)) (fun _ i _ => N - (intOf i).toNat)
  case atStart => exact ⟨0, [], Nat.zero_le _, rfl, rfl, World.ownsRow_nil _ _ _ _, HG0, Below.refl _ _⟩
  case round =>
    clear HG0
    obtain ⟨k, l, hk, rfl, hlk, HO, HG, HB⟩ := hrel
    by_cases hkN : k < N
    · have hkN' : (k : Int) < (N : Int) := by omega
      have hkw : IntKind.i64.wrap ((k : Int) + 1) = (k : Int) + 1 := by rw [IntKind.wrap_i64]; omega
      have hk0 : (0 : Int) ≤ (k : Int) := by omega
      have hkp : k < rs.length := by rw [HN.out]; exact hkN
      obtain ⟨r, hr⟩ : ∃ r, rs[k]? = some r := ⟨_, List.getElem?_eq_getElem hkp⟩
      have HRK : Hid r.ok := HK.out r (List.mem_of_getElem? hr)
      have hcF : wr.cell? ⟨g, o + k, none⟩ = some (.string r.f) := (HB.out.cell hg).trans (HF.out k r hr)
      have hcR : wr.cell? ⟨g2, o2 + k, none⟩ = some (.iface r.T r.v) := (HB.out.cell hg2).trans (HR.out k r hr)
      have HD : Hid (rdL (r :: rs.drop (k + 1)) l = G) := by
        show _ = _
        rw [← HG.out, List.drop_eq_getElem_cons hkp, (List.getElem?_eq_some_iff.1 hr).2]
      clear HG hr hkp HK
      obtain ⟨T, v, MF, f, xT, xv, b⟩ := r
      have hna : ∀ w : World, (nilAhead 384 T v "computus/src.read").run Tryz.prog w = .ok (some false) w := HRK.out.1
      have hme : ∀ w : World, (method 384 T v "computus/src.read").run Tryz.prog w = .ok (MF, v) w := HRK.out.2.1
      have HC : Hid (∀ w : World, Calls Tryz.prog MF #[v, .string f] w fun e w' => e = .returned (.tuple #[.iface xT xv, .bool b]) ∧ Below w.heap.size w w') := HRK.out.2.2.1
      have hcf : ∀ (a : Array Value) (w : World), (callFunc MF a).run Tryz.prog w = .ok (.enter MF a) w := HRK.out.2.2.2
      clear HRK
      go_wp2_with fail
      have hgr : g < wr.heap.size := Nat.lt_of_lt_of_le hg HB.out.size
      have BR : Hid (BelR wr wr) := Below.refl _ _
      refine wp_region_held_drew (S := BelR wr) (by kernel_rfl) BR.out.drew (fun hHeld => ?_)
      refine wpAnyH_take (i := 0) (v := ?_) (oi := { dst := some 24, op := _, type := _, pos := _, after := _, guard := none }) rfl (by kernel_rfl) (by kernel_rfl) (by kernel_rfl) (fun _ _ _ h => h) (Or.inl ⟨by kernel_rfl, ?_⟩) (by assumption) ?_
      case refine_2 => (intro w9 hSw; clear hSw; go_simp; try with_reducible rfl)
      simp only [Act.put, List.setIfInBounds_toArray, List.set_cons_zero, List.set_cons_succ]
      refine wpAnyH_take (i := 1) (v := ?_) (oi := { dst := some 25, op := _, type := _, pos := _, after := _, guard := none }) rfl (by kernel_rfl) (by kernel_rfl) (by kernel_rfl) (fun _ _ _ h => h) (Or.inl ⟨by kernel_rfl, ?_⟩) (by assumption) ?_
      case refine_2 => (intro w9 hSw; clear hSw; go_simp; try with_reducible rfl)
      simp only [Act.put, List.setIfInBounds_toArray, List.set_cons_zero, List.set_cons_succ]
      refine wpAnyH_take (i := 2) (v := ?_) (oi := { dst := some 26, op := _, type := _, pos := _, after := _, guard := none }) rfl (by kernel_rfl) (by kernel_rfl) (by kernel_rfl) (fun _ _ _ h => h) (Or.inl ⟨by kernel_rfl, ?_⟩) (by assumption) ?_
      case refine_2 => (intro w9 hSw; clear hSw; go_simp; try with_reducible rfl)
      simp only [Act.put, List.setIfInBounds_toArray, List.set_cons_zero, List.set_cons_succ]
      refine wpAnyH_take (i := 3) (v := ?_) (oi := { dst := some 27, op := _, type := _, pos := _, after := _, guard := none }) rfl (by kernel_rfl) (by kernel_rfl) (by kernel_rfl) (fun _ _ _ h => h) (Or.inl ⟨by kernel_rfl, ?_⟩) (by assumption) ?_
      case refine_2 => (intro w9 hSw; clear hSw; go_simp; try with_reducible rfl)
      simp only [Act.put, List.setIfInBounds_toArray, List.set_cons_zero, List.set_cons_succ]
      refine wpAnyH_take (i := 4) (v := ?_) (oi := { dst := some 28, op := _, type := _, pos := _, after := _, guard := none }) rfl (by kernel_rfl) (by kernel_rfl) (by kernel_rfl) (fun _ _ _ h => h) (Or.inl ⟨by kernel_rfl, ?_⟩) (by assumption) ?_
      case refine_2 => (intro w9 hSw; have zz := (Below.cell hSw hgr).trans hcF; clear hSw; go_simp; try with_reducible rfl)
      simp only [Act.put, List.setIfInBounds_toArray, List.set_cons_zero, List.set_cons_succ]
      refine wpAnyH_take (i := 5) (v := ?_) (oi := { dst := some 29, op := _, type := _, pos := _, after := _, guard := none }) rfl (by kernel_rfl) (by kernel_rfl) (by kernel_rfl) (fun _ _ _ h => h) (Or.inl ⟨by kernel_rfl, ?_⟩) (by assumption) ?_
      case refine_2 => (intro w9 hSw; clear hSw; go_simp; try with_reducible rfl)
      simp only [Act.put, List.setIfInBounds_toArray, List.set_cons_zero, List.set_cons_succ]
      refine wpAnyH_take (i := 6) (v := ?_) (oi := { dst := some 30, op := _, type := _, pos := _, after := _, guard := none }) rfl (by kernel_rfl) (by kernel_rfl) (by kernel_rfl) (fun _ _ _ h => h) (Or.inl ⟨by kernel_rfl, ?_⟩) (by assumption) ?_
      case refine_2 => (intro w9 hSw; clear hSw; go_simp; try with_reducible rfl)
      simp only [Act.put, List.setIfInBounds_toArray, List.set_cons_zero, List.set_cons_succ]
      refine wpAnyH_take (i := 7) (v := ?_) (oi := { dst := some 31, op := _, type := _, pos := _, after := _, guard := none }) rfl (by kernel_rfl) (by kernel_rfl) (by kernel_rfl) (fun _ _ _ h => h) (Or.inl ⟨by kernel_rfl, ?_⟩) (by assumption) ?_
      case refine_2 => (intro w9 hSw; clear hSw; go_simp; try with_reducible rfl)
      simp only [Act.put, List.setIfInBounds_toArray, List.set_cons_zero, List.set_cons_succ]
      refine wpAnyH_ready (rs := [8]) (by kernel_rfl) (by simp) (AllReadyH.cons (o := { dst := some 32, op := _, type := _, pos := _, after := _, guard := none }) rfl (fun K hK => ?_) AllReadyH.nil)
      go_simp
      refine (HC.out _).mono ?_
      rintro e v1 ⟨rfl, hb1⟩
      refine hK.out _ _ (hHeld.below hb1) (fun hHeld => ?_)
      clear hK K hb1
      refine wpAnyH_take (i := 9) (v := ?_) (oi := { dst := some 23, op := _, type := _, pos := _, after := _, guard := none }) rfl (by kernel_rfl) (by kernel_rfl) (by kernel_rfl) (fun _ _ _ h => h) (Or.inl ⟨by kernel_rfl, ?_⟩) (by assumption) ?_
      case refine_2 => (intro w9 hSw; clear hSw; go_simp; try with_reducible rfl)
      simp only [Act.put, List.setIfInBounds_toArray, List.set_cons_zero, List.set_cons_succ]
      refine wpAnyH_take (i := 10) (v := ?_) (oi := { dst := some 33, op := _, type := _, pos := _, after := _, guard := none }) rfl (by kernel_rfl) (by kernel_rfl) (by kernel_rfl) (fun _ _ _ h => h) (Or.inl ⟨by kernel_rfl, ?_⟩) (by assumption) ?_
      case refine_2 => (intro w9 hSw; clear hSw; go_simp; try with_reducible rfl)
      simp only [Act.put, List.setIfInBounds_toArray, List.set_cons_zero, List.set_cons_succ]
      refine wpAnyH_take (i := 11) (v := ?_) (oi := { dst := some 34, op := _, type := _, pos := _, after := _, guard := none }) rfl (by kernel_rfl) (by kernel_rfl) (by kernel_rfl) (fun _ _ _ h => h) (Or.inl ⟨by kernel_rfl, ?_⟩) (by assumption) ?_
      case refine_2 => (intro w9 hSw; clear hSw; go_simp; try with_reducible rfl)
      simp only [Act.put, List.setIfInBounds_toArray, List.set_cons_zero, List.set_cons_succ]
      refine wpAnyH_take (i := 12) (v := ?_) (oi := { dst := some 9, op := _, type := _, pos := _, after := _, guard := none }) rfl (by kernel_rfl) (by kernel_rfl) (by kernel_rfl) (fun _ _ _ h => h) (Or.inl ⟨by kernel_rfl, ?_⟩) (by assumption) ?_
      case refine_2 => (intro w9 hSw; clear hSw; go_simp; try with_reducible rfl)
      simp only [Act.put, List.setIfInBounds_toArray, List.set_cons_zero, List.set_cons_succ]
      refine wpAnyH_take (i := 13) (v := ?_) (oi := { dst := some 10, op := _, type := _, pos := _, after := _, guard := none }) rfl (by kernel_rfl) (by kernel_rfl) (by kernel_rfl) (fun _ _ _ h => h) (Or.inl ⟨by kernel_rfl, ?_⟩) (by assumption) ?_
      case refine_2 => (intro w9 hSw; clear hSw; go_simp; try with_reducible rfl)
      simp only [Act.put, List.setIfInBounds_toArray, List.set_cons_zero, List.set_cons_succ]
      refine wpAnyH_done (by kernel_rfl) ?_ _
      have HB7 : Hid (BelR wr _) := hHeld
      clear hHeld BR
      have HB8 : Hid (Below w.heap.size w v1) := HB.out.trans (Below.mono HB7.out HB.out.size)
      have HO7 : Hid (v1.ownsRow w.heap.size 20 1 u6 k l) := own_keep HO.out (fun k _ hk => Below.block HB7.out k hk)
      clear HB HO HB7 hcF hcR hna hme hcf HC
      cases b with
      | false =>
        have HE : G = none := by rw [← HD.out]; rfl
        subst HE
        clear HD HO7
        go_wp2_with fail
        go_ret2
        exact ⟨HB8.out, rfl⟩
      | true =>
        have HE2 : Hid (rdL (rs.drop (k + 1)) (l ++ [Value.iface xT xv]) = G) := by show _ = _; rw [← HD.out]; rfl
        clear HD
        have hmx : k + 1 ≤ 16 := by omega
        rcases HO7.out.2 with ⟨e5, -⟩ | ⟨g5, cap5, cur5, e5, _, _, _, _, _, _⟩
        all_goals
          subst e5
          go_wp2_with (first
          | (at_builtin; refine wpList_append_own _ rfl _ _ 171 rfl w.heap.size 20 i0 .nilIface 1 16 Tryz.underlying171 hi hz0 hz1 hz2 rfl (by decide) _ k l rfl (HO7.out.alloc _) ⟨v1.heap.size, 0, none⟩ 1 1 [.iface xT xv] rfl rfl (one_newB _ _ _) (by intro y hy; simp at hy; rw [hy]; rfl) (by unfold maxLen; omega) (by omega) (by have := HB8.out.size; simp; omega) ?_; intro v' w3 hown' hgrow3 hnil3
             have HJ : Hid (w3.ownsRow w.heap.size 20 1 v' (k + 1) (l ++ [Value.iface xT xv]) ∧ Below w.heap.size w w3) := ⟨hown', Below.grown (HB8.out.alloc HB8.out.size _) hgrow3 (by have := HB8.out.size; simp; omega) (fun k hk => by have := (HO7.out.lt _ hk).1; omega)⟩
             clear hown' hgrow3 hnil3))
          go_roundw
          case rel => exact ⟨k + 1, l ++ [Value.iface xT xv], by omega, by go_num, by rw [List.length_append]; show _ + 1 = _; omega, HJ.out.1, HE2, HJ.out.2⟩
          case measure => simp [intOf]; omega
    · have hkN' : ¬ (k : Int) < (N : Int) := by omega
      have hkk : k = N := by omega
      have HE : G = some l := by
        rw [← HG.out, List.drop_of_length_le (by rw [HN.out]; omega)]; rfl
      subst HE
      have HOf : Hid (wr.ownsRow w.heap.size 20 1 u6 l.length l) := by have := HO.out; rw [← hlk] at this; exact this
      clear HG HO hkk
      go_wp2_with fail
      go_ret2
      exact ⟨HB.out, _, rfl, HOf.out⟩

end Go.Proofs.YtgnfkkcagbbhmaaGreatDoor
