/- Contract: src.readLink. -/
import Derived.Test.YtgnfkkcagbbhmaaGreatDoorSrJq
namespace Go.Proofs.YtgnfkkcagbbhmaaGreatDoor
open Go.RowKit Lin Sr
set_option linter.unusedVariables false

/-- what stands while a row of answers is handed over as a struct of k cells. -/
def LS (w : World) (gb : Nat) (L : List Value) (k : Nat) (W : World) : Prop := Below w.heap.size w W ∧ (∀ j x, L[j]? = some x → W.cell? ⟨gb, j, none⟩ = some x) ∧ ∃ l, l.length = k ∧ Bx W w.heap.size l
theorem LS.drew {w W : World} {gb k : Nat} {L : List Value} (h : LS w gb L k W) : LS w gb L k W.drew := ⟨Below.drew h.1, h.2.1, h.2.2⟩

set_option maxRecDepth 100000 in
set_option maxHeartbeats 4000000 in
theorem readLink_len (a : Option Addr) (n c : Nat) (hn : n ≠ 2) (w : World) :
    Calls Tryz.prog 83 #[.slice a n c] w fun e w' => e = .returned (.tuple #[.agg #[.string ⟨#[]⟩, .string ⟨#[]⟩], .bool false]) ∧ Below w.heap.size w w' := by
  go_enter Tryz.func83, Tryz.ntmps83
  go_wp2_with fail
  refine (readAll_len a (some ⟨w.heap.size + 1, 0, none⟩) n c 2 2 hn _).mono ?_
  rintro e w3 ⟨rfl, hb3⟩
  have X3 : Hid (Bx w3 w.heap.size [.string ⟨#[]⟩, .string ⟨#[]⟩]) := ((Bx.new w [.string ⟨#[]⟩, .string ⟨#[]⟩] 95).alloc _).below hb3
  have B2 : Below w.heap.size w ((w.alloc (.cells #[.string ⟨#[]⟩, .string ⟨#[]⟩] 95)).alloc (.cells #[.iface 185 (.agg #[]), .iface 185 (.agg #[])] 175)) := ((Below.refl _ _).alloc (Nat.le_refl _) _).alloc (by simp) _
  have B3 : Hid (Below w.heap.size w w3) := B2.trans (hb3.mono B2.size)
  clear hb3 B2
  go_wp2_with (refine wpList_store_mid rfl 95 _ _ rfl w.heap.size 0 #[.string ⟨#[]⟩, .string ⟨#[]⟩] rfl rfl X3.out.there (by kernel_rfl) (all_oneCell_toArray (cs := [.string ⟨#[]⟩, .string ⟨#[]⟩]) (by intro v hv; simp at hv; rcases hv with rfl <;> rfl)) ?_; refine gen_list (fun V => Bx V w.heap.size [.string ⟨#[]⟩, .string ⟨#[]⟩] ∧ Below w.heap.size w V) ⟨X3.out.setAll [.string ⟨#[]⟩, .string ⟨#[]⟩] rfl, below_setCells (Nat.le_refl _) [.string ⟨#[]⟩, .string ⟨#[]⟩] w3 0 B3.out⟩ ?_; clear X3 B3; rintro w4 ⟨X4, B4⟩)
  have y0 := X4.c 0 rfl
  have y1 := X4.c 1 rfl
  have HB : Hid (Below w.heap.size w w4) := B4
  clear X4 B4
  refine bodyPost_ret (v := .tuple #[.agg #[.string ⟨#[]⟩, .string ⟨#[]⟩], .bool false]) (by simp [results, Tryz.results83, go_sem, y0, y1]) rfl ⟨rfl, HB.out⟩

set_option maxRecDepth 100000 in
set_option maxHeartbeats 4000000 in
theorem readLink_no (rs : List Rdr) (f0 f1 : ByteArray) (b0 b1 : Bool) (hrs : Hid (rs = [⟨185, .agg #[], 168, f0, 9, .string f0, b0⟩, ⟨185, .agg #[], 168, f1, 9, .string f1, b1⟩])) (hno : Hid (rdL rs [] = none)) (HK : Hid (∀ r ∈ rs, r.ok))
    (g o c : Nat) (w : World) (hg : g < w.heap.size) (hc : 2 ≤ c) (HF : Hid (∀ j r, rs[j]? = some r → w.cell? ⟨g, o + j, none⟩ = some (.string r.f))) :
    Calls Tryz.prog 83 #[.slice (some ⟨g, o, none⟩) 2 c] w fun e w' => e = .returned (.tuple #[.agg #[.string ⟨#[]⟩, .string ⟨#[]⟩], .bool false]) ∧ Below w.heap.size w w' := by
  go_enter Tryz.func83, Tryz.ntmps83
  go_wp2_with fail
  have hlen : rs.length = 2 := by rw [hrs.out]; rfl
  refine (readAll_any rs 2 hlen g o (w.heap.size + 1) 0 c 2 _ HK (by simp; omega) (by simp) (by decide) (fun j r hj => ?_) (fun j r hj => ?_) hc (Nat.le_refl _)).mono ?_
  · exact ((((Below.refl _ w).alloc (Nat.le_refl _) _).alloc (by simp) _).cell hg).trans (HF.out j r hj)
  · have e1 := hrs.out
    subst e1
    have := (Bx.new (w.alloc (.cells #[.string ⟨#[]⟩, .string ⟨#[]⟩] 95)) (([⟨185, .agg #[], 168, f0, 9, .string f0, b0⟩, ⟨185, .agg #[], 168, f1, 9, .string f1, b1⟩] : List Rdr).map fun r => Value.iface r.T r.v) 175).c j (v := .iface r.T r.v) (by rw [List.getElem?_map, hj]; rfl)
    rw [Nat.zero_add]
    simpa using this
  rintro e w3 ⟨hb3, hR⟩
  rw [hno.out] at hR
  have hR' : e = .returned (.tuple #[.slice none 0 0, .bool false]) := hR
  subst hR'
  have X3 : Hid (Bx w3 w.heap.size [.string ⟨#[]⟩, .string ⟨#[]⟩]) := ((Bx.new w [.string ⟨#[]⟩, .string ⟨#[]⟩] 95).alloc _).below hb3
  have B2 : Below w.heap.size w ((w.alloc (.cells #[.string ⟨#[]⟩, .string ⟨#[]⟩] 95)).alloc (.cells #[.iface 185 (.agg #[]), .iface 185 (.agg #[])] 175)) := ((Below.refl _ _).alloc (Nat.le_refl _) _).alloc (by simp) _
  have B3 : Hid (Below w.heap.size w w3) := B2.trans (hb3.mono B2.size)
  clear hb3 B2 hR HK HF hrs hno hlen
  go_wp2_with (refine wpList_store_mid rfl 95 _ _ rfl w.heap.size 0 #[.string ⟨#[]⟩, .string ⟨#[]⟩] rfl rfl X3.out.there (by kernel_rfl) (all_oneCell_toArray (cs := [.string ⟨#[]⟩, .string ⟨#[]⟩]) (by intro v hv; simp at hv; rcases hv with rfl <;> rfl)) ?_; refine gen_list (fun V => Bx V w.heap.size [.string ⟨#[]⟩, .string ⟨#[]⟩] ∧ Below w.heap.size w V) ⟨X3.out.setAll [.string ⟨#[]⟩, .string ⟨#[]⟩] rfl, below_setCells (Nat.le_refl _) [.string ⟨#[]⟩, .string ⟨#[]⟩] w3 0 B3.out⟩ ?_; clear X3 B3; rintro w4 ⟨X4, B4⟩)
  have y0 := X4.c 0 rfl
  have y1 := X4.c 1 rfl
  have HB : Hid (Below w.heap.size w w4) := B4
  clear X4 B4
  refine bodyPost_ret (v := .tuple #[.agg #[.string ⟨#[]⟩, .string ⟨#[]⟩], .bool false]) (by simp [results, Tryz.results83, go_sem, y0, y1]) rfl ⟨rfl, HB.out⟩

set_option maxRecDepth 100000 in
set_option maxHeartbeats 4000000 in
theorem readLink_yes (rs : List Rdr) (f0 f1 : ByteArray) (hrs : Hid (rs = [⟨185, .agg #[], 168, f0, 9, .string f0, true⟩, ⟨185, .agg #[], 168, f1, 9, .string f1, true⟩])) (HK : Hid (∀ r ∈ rs, r.ok))
    (g o c : Nat) (w : World) (hg : g < w.heap.size) (hc : 2 ≤ c) (HF : Hid (∀ j r, rs[j]? = some r → w.cell? ⟨g, o + j, none⟩ = some (.string r.f))) :
    Calls Tryz.prog 83 #[.slice (some ⟨g, o, none⟩) 2 c] w fun e w' => e = .returned (.tuple #[.agg #[.string f0, .string f1], .bool true]) ∧ Below w.heap.size w w' := by
  go_enter Tryz.func83, Tryz.ntmps83
  go_wp2_with fail
  have hlen : rs.length = 2 := by rw [hrs.out]; rfl
  refine (readAll_any rs 2 hlen g o (w.heap.size + 1) 0 c 2 _ HK (by simp; omega) (by simp) (by decide) (fun j r hj => ?_) (fun j r hj => ?_) hc (Nat.le_refl _)).mono ?_
  · exact ((((Below.refl _ w).alloc (Nat.le_refl _) _).alloc (by simp) _).cell hg).trans (HF.out j r hj)
  · have e1 := hrs.out
    subst e1
    have := (Bx.new (w.alloc (.cells #[.string ⟨#[]⟩, .string ⟨#[]⟩] 95)) (([⟨185, .agg #[], 168, f0, 9, .string f0, true⟩, ⟨185, .agg #[], 168, f1, 9, .string f1, true⟩] : List Rdr).map fun r => Value.iface r.T r.v) 175).c j (v := .iface r.T r.v) (by rw [List.getElem?_map, hj]; rfl)
    rw [Nat.zero_add]
    simpa using this
  rintro e w3 ⟨hb3, hR⟩
  have X3 : Hid (Bx w3 w.heap.size [.string ⟨#[]⟩, .string ⟨#[]⟩]) := ((Bx.new w [.string ⟨#[]⟩, .string ⟨#[]⟩] 95).alloc _).below hb3
  have B2 : Below w.heap.size w ((w.alloc (.cells #[.string ⟨#[]⟩, .string ⟨#[]⟩] 95)).alloc (.cells #[.iface 185 (.agg #[]), .iface 185 (.agg #[])] 175)) := ((Below.refl _ _).alloc (Nat.le_refl _) _).alloc (by simp) _
  have B3 : Hid (Below w.heap.size w w3) := B2.trans (hb3.mono B2.size)
  have hL : rdL rs [] = some [.iface 9 (.string f0), .iface 9 (.string f1)] := by rw [hrs.out]; rfl
  rw [hL] at hR
  clear hL
  obtain ⟨v, hv, hO⟩ := hR
  subst hv
  have hgw : ∀ r, v.ownBlock = some r → w.heap.size < r := fun r hr => by have := (hO.lt r hr).1; simp at this; omega
  obtain ⟨gb, cb, rfl, hgb, hcs⟩ := row_of_own 2 hO rfl (by decide)
  have hne : gb ≠ w.heap.size := by have := hgw gb rfl; omega
  have s0 := ta_str f0
  have s1 := ta_str f1
  have S4 : Hid (LS w gb [.iface 9 (.string f0), .iface 9 (.string f1)] 2 w3) := ⟨B3.out, hcs, _, rfl, X3.out⟩
  clear hcs hO hb3 B2 B3 X3 HK HF hrs hlen hgw
  go_wp2_with fail
  refine wp_region_held_drew (S := LS w gb [.iface 9 (.string f0), .iface 9 (.string f1)] 2) (by kernel_rfl) S4.out.drew (fun hHeld => ?_)
  refine gen_any (LS w gb [.iface 9 (.string f0), .iface 9 (.string f1)] 2) hHeld ?_
  clear hHeld S4
  rintro w5 hHeld
  refine wpAnyH_take (i := 0) (v := ?_) (oi := { dst := some 19, op := _, type := _, pos := _, after := _, guard := none }) rfl (by kernel_rfl) (by kernel_rfl) (by kernel_rfl) (fun _ _ _ h => h) (Or.inl ⟨by kernel_rfl, ?_⟩) (by assumption) ?_
  case refine_2 => (intro w9 hSw; clear hSw; go_simp; try with_reducible rfl)
  simp only [Act.put, List.setIfInBounds_toArray, List.set_cons_zero, List.set_cons_succ]
  refine wpAnyH_take (i := 1) (v := ?_) (oi := { dst := some 20, op := _, type := _, pos := _, after := _, guard := none }) rfl (by kernel_rfl) (by kernel_rfl) (by kernel_rfl) (fun _ _ _ h => h) (Or.inl ⟨by kernel_rfl, ?_⟩) (by assumption) ?_
  case refine_2 => (intro w9 hSw; clear hSw; go_simp; try with_reducible rfl)
  simp only [Act.put, List.setIfInBounds_toArray, List.set_cons_zero, List.set_cons_succ]
  refine wpAnyH_take (i := 2) (v := ?_) (oi := { dst := some 21, op := _, type := _, pos := _, after := _, guard := none }) rfl (by kernel_rfl) (by kernel_rfl) (by kernel_rfl) (fun _ _ _ h => h) (Or.inl ⟨by kernel_rfl, ?_⟩) (by assumption) ?_
  case refine_2 => (intro w9 hSw; obtain ⟨zb, zx, _⟩ := hSw; have q0 := zx 0 _ rfl; have q1 := zx 1 _ rfl; clear zx zb; go_simp; try with_reducible rfl)
  simp only [Act.put, List.setIfInBounds_toArray, List.set_cons_zero, List.set_cons_succ]
  refine wpAnyH_take (i := 3) (v := ?_) (oi := { dst := some 22, op := _, type := _, pos := _, after := _, guard := none }) rfl (by kernel_rfl) (by kernel_rfl) (by kernel_rfl) (fun _ _ _ h => h) (Or.inl ⟨by kernel_rfl, ?_⟩) (by assumption) ?_
  case refine_2 => (intro w9 hSw; clear hSw; go_simp; try with_reducible rfl)
  simp only [Act.put, List.setIfInBounds_toArray, List.set_cons_zero, List.set_cons_succ]
  refine wpAnyH_take (i := 4) (v := ?_) (oi := { dst := some 23, op := _, type := _, pos := _, after := _, guard := none }) rfl (by kernel_rfl) (by kernel_rfl) (by kernel_rfl) (fun _ _ _ h => h) (Or.inl ⟨by kernel_rfl, ?_⟩) (by assumption) ?_
  case refine_2 => (intro w9 hSw; clear hSw; go_simp; try with_reducible rfl)
  simp only [Act.put, List.setIfInBounds_toArray, List.set_cons_zero, List.set_cons_succ]
  refine wpAnyH_take (i := 5) (v := ?_) (oi := { dst := some 24, op := _, type := _, pos := _, after := _, guard := none }) rfl (by kernel_rfl) (by kernel_rfl) (by kernel_rfl) (fun _ _ _ h => h) (Or.inl ⟨by kernel_rfl, ?_⟩) (by assumption) ?_
  case refine_2 => (intro w9 hSw; clear hSw; go_simp; try with_reducible rfl)
  simp only [Act.put, List.setIfInBounds_toArray, List.set_cons_zero, List.set_cons_succ]
  refine wpAnyH_take (i := 6) (v := ?_) (oi := { dst := some 25, op := _, type := _, pos := _, after := _, guard := none }) rfl (by kernel_rfl) (by kernel_rfl) (by kernel_rfl) (fun _ _ _ h => h) (Or.inl ⟨by kernel_rfl, ?_⟩) (by assumption) ?_
  case refine_2 => (intro w9 hSw; obtain ⟨zb, zx, _⟩ := hSw; have q0 := zx 0 _ rfl; have q1 := zx 1 _ rfl; clear zx zb; go_simp; try with_reducible rfl)
  simp only [Act.put, List.setIfInBounds_toArray, List.set_cons_zero, List.set_cons_succ]
  refine wpAnyH_take (i := 7) (v := ?_) (oi := { dst := some 26, op := _, type := _, pos := _, after := _, guard := none }) rfl (by kernel_rfl) (by kernel_rfl) (by kernel_rfl) (fun _ _ _ h => h) (Or.inl ⟨by kernel_rfl, ?_⟩) (by assumption) ?_
  case refine_2 => (intro w9 hSw; clear hSw; go_simp; try with_reducible rfl)
  simp only [Act.put, List.setIfInBounds_toArray, List.set_cons_zero, List.set_cons_succ]
  refine wpAnyH_take (i := 8) (v := ?_) (oi := { dst := some 27, op := _, type := _, pos := _, after := _, guard := none }) rfl (by kernel_rfl) (by kernel_rfl) (by kernel_rfl) (fun _ _ _ h => h) (Or.inl ⟨by kernel_rfl, ?_⟩) (by assumption) ?_
  case refine_2 => (intro w9 hSw; clear hSw; go_simp; try with_reducible rfl)
  simp only [Act.put, List.setIfInBounds_toArray, List.set_cons_zero, List.set_cons_succ]
  refine wpAnyH_ready (rs := [9]) (by kernel_rfl) (by simp) (AllReadyH.cons (o := { dst := none, op := _, type := _, pos := _, after := _, guard := none }) rfl (fun K hK => ?_) AllReadyH.nil)
  obtain ⟨hB5, hX5, l5, hl5, hZ5⟩ := id hHeld
  have hT5 : w5.there w.heap.size 0 2 := by have := hZ5.there; rw [hl5] at this; exact this
  have P1 : Below w.heap.size w (w5.setCells w.heap.size 0 [.string f0, .string f1]) := below_setCells (Nat.le_refl _) [.string f0, .string f1] w5 0 hB5
  have P3 : Bx (w5.setCells w.heap.size 0 [.string f0, .string f1]) w.heap.size [.string f0, .string f1] := hZ5.setAll [.string f0, .string f1] hl5
  have P4 : LS w gb [.iface 9 (.string f0), .iface 9 (.string f1)] 2 (w5.setCells w.heap.size 0 [.string f0, .string f1]) := ⟨P1, fun j x hj => (setCells_off _ _ _ _ _ hne).trans (hX5 j x hj), _, rfl, P3⟩
  refine (if_pos (by kernel_rfl)).mpr (wp_store_mid 95 _ _ rfl w.heap.size 0 #[.string f0, .string f1] rfl rfl hT5 (by kernel_rfl) (all_oneCell_toArray (cs := [.string f0, .string f1]) (by intro v hv; simp at hv; rcases hv with rfl | rfl <;> rfl)) ?_)
  refine hK.out _ (w5.setCells w.heap.size 0 [.string f0, .string f1]) P4 (fun _ => ?_)
  clear hK K
  have P5 : LS w gb [.iface 9 (.string f0), .iface 9 (.string f1)] 2 (w5.setCells w.heap.size 0 [.string f0, .string f1]) ∧ Bx (w5.setCells w.heap.size 0 [.string f0, .string f1]) w.heap.size [.string f0, .string f1] ∧ Below w.heap.size w (w5.setCells w.heap.size 0 [.string f0, .string f1]) := ⟨P4, P3, P1⟩
  refine gen_any (w1 := w5.setCells w.heap.size 0 [.string f0, .string f1]) (fun V => LS w gb [.iface 9 (.string f0), .iface 9 (.string f1)] 2 V ∧ Bx V w.heap.size [.string f0, .string f1] ∧ Below w.heap.size w V) P5 ?_
  clear hHeld hB5 hX5 hl5 hZ5 hT5 P1 P3 P4 P5
  rintro w6 ⟨hHeld, X6, B6⟩
  refine wpAnyH_take (i := 10) (v := ?_) (oi := { dst := some 3, op := _, type := _, pos := _, after := _, guard := none }) rfl (by kernel_rfl) (by kernel_rfl) (by kernel_rfl) (fun _ _ _ h => h) (Or.inl ⟨by kernel_rfl, ?_⟩) (by assumption) ?_
  case refine_2 => (intro w9 hSw; clear hSw; go_simp; try with_reducible rfl)
  simp only [Act.put, List.setIfInBounds_toArray, List.set_cons_zero, List.set_cons_succ]
  refine wpAnyH_done (by kernel_rfl) ?_ _
  have y0 := X6.c 0 rfl
  have y1 := X6.c 1 rfl
  have HB : Hid (Below w.heap.size w w6) := B6
  clear X6 B6 hHeld
  go_wp2_with fail
  refine bodyPost_ret (v := .tuple #[.agg #[.string f0, .string f1], .bool true]) (by simp [results, Tryz.results83, go_sem, y0, y1]) rfl ⟨rfl, HB.out⟩

end Go.Proofs.YtgnfkkcagbbhmaaGreatDoor
