/- show.joined: texts put together, with a mark between them. -/
import Derived.Test.YtmohhbgmbicklaaGreatDoorBxCq
import Derived.Lib.LazyBuf
import Derived.Laws.MakeOwn
import Derived.OwnWalk
import Derived.Shelf.Abstract
import Derived.Laws.IdiomStrings
import Derived.Deep.Cut
import Derived.Deep.QuietTactic
import Derived.BigQuiet
namespace Go.Proofs.YtmohhbgmbicklaaGreatDoor
open Go.RowKit
set_option linter.unusedVariables false

def bts (l : List UInt8) : List Value := l.map fun x => .int .u8 (x.toNat : Int)
theorem bts_len (l : List UInt8) : (bts l).length = l.length := by simp [bts]
theorem bts_app (a b : List UInt8) : bts (a ++ b) = bts a ++ bts b := by simp [bts]
theorem infoU8j : (Tryz.prog.info? 5).map (fun i => (i.zero, i.size, i.bytes)) = some (some (.int .u8 0), 1, 1) := by kernel_rfl
theorem made0 (N : Nat) : madeCells #[.int .u8 0] N = (bts (List.replicate N 0)).toArray := by
  rw [← Array.toList_inj, toList_madeCells_one]; simp [bts]
theorem make_by (N : Nat) (hN : N ≤ 100000) (w : World) : (Instr.makeSlice 76 (.int .i64 (N : Int)) (.int .i64 (N : Int))).run Tryz.prog w = .ok (.slice (some ⟨w.heap.size, 0, none⟩) N N) (w.alloc (.cells (bts (List.replicate N 0)).toArray 5)) := by
  obtain ⟨i0, hi, hz0, hz1, hz2⟩ := info_parts infoU8j
  have := run_make (P := Tryz.prog) w 76 5 i0 (.int .u8 0) Tryz.underlying76 hi hz0 .i64 .i64 (N : Int) (N : Int) (by omega) (Int.le_refl _) (by rw [hz2]; omega) (by omega)
  rw [this, hz1]
  simp only [Int.toNat_natCast, Nat.mul_one]
  rw [← made0]
  rfl
/-- the room, how far it is filled, and with what. -/
structure JW (w : World) (R ra aa N : Nat) (pre : List UInt8) (W : World) : Prop where
  below : Below w.heap.size w W
  l1 : w.heap.size ≤ R
  l2 : w.heap.size ≤ ra
  l3 : w.heap.size ≤ aa
  n1 : R ≠ ra
  n2 : R ≠ aa
  n3 : ra ≠ aa
  le : pre.length ≤ N
  x1 : Bx W R (bts (pre ++ List.replicate (N - pre.length) 0))
  x2 : Bx W ra [.slice (some ⟨R, 0, none⟩) N N]
  x3 : Bx W aa [.int .i64 (pre.length : Int)]
theorem JW.mv {w W V : World} {R ra aa N : Nat} {pre : List UInt8} (h : JW w R ra aa N pre W) (hb : Below W.heap.size W V) : JW w R ra aa N pre V :=
  ⟨h.below.trans (hb.mono h.below.size), h.l1, h.l2, h.l3, h.n1, h.n2, h.n3, h.le, h.x1.below hb, h.x2.below hb, h.x3.below hb⟩
theorem bx_mid {W : World} {b : Nat} {p c q : List Value} (h : Bx W b (p ++ (c ++ q))) (vs : List Value) (hl : c.length = vs.length) : Bx (W.setCells b p.length vs) b (p ++ (vs ++ q)) := by
  have ht : W.there b p.length vs.length := fun j hj => by
    have hj2 : (p ++ (c ++ q))[p.length + j]? = some c[j] := by rw [List.getElem?_append_right (by omega), show p.length + j - p.length = j by omega, List.getElem?_append_left (by omega), List.getElem?_eq_getElem]
    have := h.2 (p.length + j) _ hj2
    exact ⟨by rw [this.1]; rfl, this.2⟩
  refine ⟨by rw [setCells_size]; exact h.1, fun i v e => ?_⟩
  have hi := (List.getElem?_eq_some_iff.1 e).1
  have hlen : (p ++ (vs ++ q)).length = (p ++ (c ++ q)).length := by simp [hl]
  have hf : W.frozen? ⟨b, i, none⟩ = false := (h.2 i _ (List.getElem?_eq_getElem (by omega))).2
  refine ⟨?_, by rw [World.frozen?_setCells]; exact hf⟩
  by_cases hip : i < p.length
  · rw [List.getElem?_append_left hip] at e
    refine (World.cell?_setCells_out b vs p.length W ⟨b, i, none⟩ (fun _ _ => .inl hip)).trans ?_
    exact (h.2 i v (by rw [List.getElem?_append_left hip]; exact e)).1
  · rw [List.getElem?_append_right (by omega)] at e
    by_cases hiv : i - p.length < vs.length
    · rw [List.getElem?_append_left hiv] at e
      have := World.rangeAt_setCells_same W b p.length vs ht (i - p.length) v e
      rwa [show p.length + (i - p.length) = i by omega] at this
    · rw [List.getElem?_append_right (by omega)] at e
      refine (World.cell?_setCells_out b vs p.length W ⟨b, i, none⟩ (fun _ _ => .inr (by simp only []; omega))).trans ?_
      refine (h.2 i v ?_).1
      rw [List.getElem?_append_right (by omega), List.getElem?_append_right (by omega), hl]
      exact e
theorem bts_str (t : ByteArray) : (t.data.toList.map fun x => Value.int .u8 (x.toNat : Int)) = bts t.data.toList := rfl
theorem size8 (w : World) : (Go.sizeOf 5).run Tryz.prog w = .ok 1 w := by kernel_rfl
/-- what is written next. -/
theorem JW.put {w W : World} {R ra aa N : Nat} {pre : List UInt8} (h : JW w R ra aa N pre W) (t : ByteArray) (hf : pre.length + t.size ≤ N) (k : Int) (hk : k = (pre.length : Int) + t.size) :
    JW w R ra aa N (pre ++ t.data.toList) ((W.setCells R pre.length (bts t.data.toList)).setCell ⟨aa, 0, none⟩ (.int .i64 k)) := by
  have hs : t.data.toList.length = t.size := Array.length_toList
  have e0 : List.replicate (N - pre.length) (0 : UInt8) = List.replicate t.size 0 ++ List.replicate (N - (pre.length + t.size)) 0 := by rw [List.replicate_append_replicate]; congr 1; omega
  have x1 := h.x1
  rw [e0, bts_app, bts_app] at x1
  have y1 := bx_mid (p := bts pre) (c := bts (List.replicate t.size 0)) (q := bts (List.replicate (N - (pre.length + t.size)) 0)) x1 (bts t.data.toList) (by rw [bts_len, bts_len, hs, List.length_replicate])
  rw [bts_len] at y1
  have y2 : Bx (W.setCells R pre.length (bts t.data.toList)) aa [.int .i64 (pre.length : Int)] := h.x3.setOther (fun e => h.n2 e.symm) _ _
  have y3 : Bx (W.setCells R pre.length (bts t.data.toList)) ra [.slice (some ⟨R, 0, none⟩) N N] := h.x2.setOther (fun e => h.n1 e.symm) _ _
  refine ⟨?_, h.l1, h.l2, h.l3, h.n1, h.n2, h.n3, by rw [List.length_append, hs]; omega, ?_, ?_, ?_⟩
  · exact (below_setCells h.l1 _ _ _ h.below).setCell (p := ⟨aa, 0, none⟩) h.l3 _
  · have z := Bx.setOther (b := aa) y1 h.n2 [.int .i64 k] 0
    rw [List.length_append, hs]
    rw [← bts_app, ← bts_app, ← List.append_assoc] at z
    exact z
  · exact Bx.setOther (b := aa) y3 h.n3 [.int .i64 k] 0
  · have z := Bx.set1 y2 0 (.int .i64 k) (by simp)
    rw [List.length_append, hs, Int.natCast_add, ← hk]
    exact z

theorem below_drew0 (W : World) : Below W.heap.size W W.drew := ⟨rfl, rfl, rfl, Nat.le_refl _, fun _ _ => rfl⟩

set_option maxRecDepth 100000 in
set_option maxHeartbeats 4000000 in
theorem put_some (w : World) (R ra aa N : Nat) (pre : List UInt8) (W : World) (H : Hid (JW w R ra aa N pre W)) (t : ByteArray) (hf : pre.length + t.size ≤ N) (hN : N ≤ 100000) (h0 : 0 < t.size) :
    Calls Tryz.prog 42 #[.string t, .pointer (some ⟨aa, 0, none⟩), .pointer (some ⟨ra, 0, none⟩)] W fun e W' => (∃ v, e = .returned v) ∧ JW w R ra aa N (pre ++ t.data.toList) W' := by
  obtain ⟨p, hp⟩ : ∃ p, pre.length = p := ⟨_, rfl⟩
  rw [hp] at hf
  have c1 : W.cell? ⟨aa, 0, none⟩ = some (.int .i64 (p : Int)) := by rw [← hp]; exact H.out.x3.c 0 rfl
  have c2 : W.cell? ⟨ra, 0, none⟩ = some (.slice (some ⟨R, 0, none⟩) N N) := H.out.x2.c 0 rfl
  have t1 : IntKind.i64.wrap ((p : Int) + (t.size : Int)) = (p : Int) + (t.size : Int) := by rw [IntKind.wrap_i64]; omega
  have t2 : (0 : Int) ≤ (p : Int) := by omega
  have t3 : (p : Int) ≤ (p : Int) + (t.size : Int) := by omega
  have t4 : (p : Int) + (t.size : Int) ≤ (N : Int) := by omega
  have HF : Hid (p + t.size ≤ N) := hf
  have HX2 : Hid (Bx W.drew ra [.slice (some ⟨R, 0, none⟩) N N]) := H.out.x2
  have hs0 : ¬ ((p : Int) + (t.size : Int)).toNat = p := by omega
  have hs1 : ((p : Int) + (t.size : Int)).toNat - p = t.size := by omega
  have HT : Hid (∀ j, j < t.size → ((W.drew.cell? ⟨R, p + j, none⟩).isSome = true ∧ W.drew.frozen? ⟨R, p + j, none⟩ = false)) := fun j hj => by
    have hl : (bts (pre ++ List.replicate (N - pre.length) 0)).length = N := by rw [bts_len, List.length_append, List.length_replicate, hp]; omega
    have := H.out.x1.2 (p + j) _ (List.getElem?_eq_getElem (by rw [hl]; omega))
    exact ⟨by rw [show W.drew.cell? ⟨R, p + j, none⟩ = W.cell? ⟨R, p + j, none⟩ from rfl, this.1]; rfl, this.2⟩
  have HD : Hid (JW w R ra aa N pre W.drew) := H.out.mv (below_drew0 W)
  go_enter Tryz.func42, Tryz.ntmps42
  go_upto_region 1 with fail
  refine wp_region_held_drew (S := fun V : World => Bx V ra [.slice (some ⟨R, 0, none⟩) N N]) (by kernel_rfl) HX2.out (fun hHeld => ?_)
  refine wpAnyH_take (i := 1) (v := ?_) (oi := { dst := some 10, op := _, type := _, pos := _, after := _, guard := none }) rfl (by kernel_rfl) (by kernel_rfl) (by kernel_rfl) (fun _ _ _ h => h) (Or.inl ⟨by kernel_rfl, ?_⟩) (by assumption) ?_
  case refine_2 => (intro w9 hSw; have l0 := hSw.c 0 rfl; clear hSw; (go_simp); (try omega); try with_reducible rfl)
  simp only [Act.put, List.setIfInBounds_toArray, List.set_cons_zero, List.set_cons_succ]
  refine wpAnyH_take (i := 3) (v := ?_) (oi := { dst := some 12, op := _, type := _, pos := _, after := _, guard := none }) rfl (by kernel_rfl) (by kernel_rfl) (by kernel_rfl) (fun _ _ _ h => h) (Or.inl ⟨by kernel_rfl, ?_⟩) (by assumption) ?_
  case refine_2 => (intro w9 hSw; clear hSw; (go_simp); (try omega); try with_reducible rfl)
  simp only [Act.put, List.setIfInBounds_toArray, List.set_cons_zero, List.set_cons_succ]
  refine wpAnyH_take (i := 4) (v := ?_) (oi := { dst := some 13, op := _, type := _, pos := _, after := _, guard := none }) rfl (by kernel_rfl) (by kernel_rfl) (by kernel_rfl) (fun _ _ _ h => h) (Or.inl ⟨by kernel_rfl, ?_⟩) (by assumption) ?_
  case refine_2 => (intro w9 hSw; clear hSw; (go_simp); (try omega); try with_reducible rfl)
  simp only [Act.put, List.setIfInBounds_toArray, List.set_cons_zero, List.set_cons_succ]
  refine wpAnyH_take (i := 6) (v := ?_) (oi := { dst := some 15, op := _, type := _, pos := _, after := _, guard := none }) rfl (by kernel_rfl) (by kernel_rfl) (by kernel_rfl) (fun _ _ _ h => h) (Or.inl ⟨by kernel_rfl, ?_⟩) (by assumption) ?_
  case refine_2 => (intro w9 hSw; clear hSw; (go_simp); (try omega); try with_reducible rfl)
  simp only [Act.put, List.setIfInBounds_toArray, List.set_cons_zero, List.set_cons_succ]
  refine wpAnyH_ready (rs := [0, 2]) (by kernel_rfl) (by simp) (AllReadyH.cons (o := { dst := some 9, op := _, type := _, pos := _, after := _, guard := none }) rfl (fun K hK => ?_) (AllReadyH.cons (o := { dst := some 11, op := _, type := _, pos := _, after := _, guard := none }) rfl (fun K hK => ?_) AllReadyH.nil))
  ·
    go_simp
    refine hK.out _ _ hHeld (fun hHeld => ?_)
    clear hK K
    refine wpAnyH_ready (rs := [2]) (by kernel_rfl) (by simp) (AllReadyH.cons (o := { dst := some 11, op := _, type := _, pos := _, after := _, guard := none }) rfl (fun K hK => ?_) AllReadyH.nil)
    go_simp
    refine hK.out _ _ hHeld (fun hHeld => ?_)
    clear hK K
    refine wpAnyH_take (i := 5) (v := .slice (some ⟨R, p, none⟩) t.size t.size) (oi := { dst := some 14, op := _, type := _, pos := _, after := _, guard := none }) rfl (by kernel_rfl) (by kernel_rfl) (by kernel_rfl) (fun _ _ _ h => h) (Or.inl ⟨by kernel_rfl, ?_⟩) (by assumption) ?_
    case refine_1 => (intro w9 hSw; clear hSw; (go_simp); (try omega); try with_reducible rfl)
    simp only [Act.put, List.setIfInBounds_toArray, List.set_cons_zero, List.set_cons_succ]
    refine wpAnyH_ready (rs := [7]) (by kernel_rfl) (by simp) (AllReadyH.cons (o := { dst := some 16, op := _, type := _, pos := _, after := _, guard := none }) rfl (fun K hK => ?_) AllReadyH.nil)
    refine step_copy_string rfl _ _ 76 9 rfl 5 Tryz.underlying76 size8 R p t.size t.size rfl t rfl (Nat.le_refl _) (fun j hj => (HT.out j hj).1) (fun j hj => (HT.out j hj).2) ?_
    have HJ : Hid (JW w R ra aa N (pre ++ t.data.toList) ((W.drew.setCells R p (bts t.data.toList)).setCell ⟨aa, 0, none⟩ (.int .i64 ((p : Int) + (t.size : Int))))) := by rw [← hp]; exact HD.out.put t (by rw [hp]; exact HF.out) _ rfl
    have y3 : Bx (W.drew.setCells R p (bts t.data.toList)) ra [.slice (some ⟨R, 0, none⟩) N N] := HD.out.x2.setOther (fun e => HD.out.n1 e.symm) _ _
    have y4 : Bx (W.drew.setCells R p (bts t.data.toList)) aa [.int .i64 (p : Int)] := by rw [← hp]; exact HD.out.x3.setOther (fun e => HD.out.n2 e.symm) _ _
    rw [bts_str]
    refine hK.out _ _ y3 (fun hHeld => ?_)
    have y5 := Bx.setOther (b := aa) y3 HD.out.n3 [.int .i64 ((p : Int) + (t.size : Int))] 0
    have z1 := y4.c1
    have z2 := y4.f1
    clear hK K HT HD H y3 y4 c1 c2
    generalize hUU : W.drew.setCells R p (bts t.data.toList) = UU at *
    refine wpAnyH_take (i := 8) (v := ?_) (oi := { dst := some 17, op := _, type := _, pos := _, after := _, guard := none }) rfl (by kernel_rfl) (by kernel_rfl) (by kernel_rfl) (fun _ _ _ h => h) (Or.inl ⟨by kernel_rfl, ?_⟩) (by assumption) ?_
    case refine_2 => (intro w9 hSw; clear hSw; (go_simp); (try omega); try with_reducible rfl)
    simp only [Act.put, List.setIfInBounds_toArray, List.set_cons_zero, List.set_cons_succ]
    refine wpAnyH_ready (rs := [9]) (by kernel_rfl) (by simp) (AllReadyH.cons (o := { dst := none, op := _, type := _, pos := _, after := _, guard := none }) rfl (fun K hK => ?_) AllReadyH.nil)
    go_simp
    refine hK.out _ _ y5 (fun hHeld => ?_)
    clear hK K hHeld y5
    refine wpAnyH_done (by kernel_rfl) ?_ _
    go_wp2_with fail
    exact bodyPost_end (v := .tuple #[]) (by simp [results, Tryz.results42, go_sem]) rfl ⟨⟨_, rfl⟩, HJ.out⟩
  ·
    go_simp
    refine hK.out _ _ hHeld (fun hHeld => ?_)
    clear hK K
    refine wpAnyH_take (i := 5) (v := .slice (some ⟨R, p, none⟩) t.size t.size) (oi := { dst := some 14, op := _, type := _, pos := _, after := _, guard := none }) rfl (by kernel_rfl) (by kernel_rfl) (by kernel_rfl) (fun _ _ _ h => h) (Or.inl ⟨by kernel_rfl, ?_⟩) (by assumption) ?_
    case refine_1 => (intro w9 hSw; clear hSw; (go_simp); (try omega); try with_reducible rfl)
    simp only [Act.put, List.setIfInBounds_toArray, List.set_cons_zero, List.set_cons_succ]
    refine wpAnyH_ready (rs := [0, 7]) (by kernel_rfl) (by simp) (AllReadyH.cons (o := { dst := some 9, op := _, type := _, pos := _, after := _, guard := none }) rfl (fun K hK => ?_) (AllReadyH.cons (o := { dst := some 16, op := _, type := _, pos := _, after := _, guard := none }) rfl (fun K hK => ?_) AllReadyH.nil))
    ·
      go_simp
      refine hK.out _ _ hHeld (fun hHeld => ?_)
      clear hK K
      refine wpAnyH_ready (rs := [7]) (by kernel_rfl) (by simp) (AllReadyH.cons (o := { dst := some 16, op := _, type := _, pos := _, after := _, guard := none }) rfl (fun K hK => ?_) AllReadyH.nil)
      refine step_copy_string rfl _ _ 76 9 rfl 5 Tryz.underlying76 size8 R p t.size t.size rfl t rfl (Nat.le_refl _) (fun j hj => (HT.out j hj).1) (fun j hj => (HT.out j hj).2) ?_
      have HJ : Hid (JW w R ra aa N (pre ++ t.data.toList) ((W.drew.setCells R p (bts t.data.toList)).setCell ⟨aa, 0, none⟩ (.int .i64 ((p : Int) + (t.size : Int))))) := by rw [← hp]; exact HD.out.put t (by rw [hp]; exact HF.out) _ rfl
      have y3 : Bx (W.drew.setCells R p (bts t.data.toList)) ra [.slice (some ⟨R, 0, none⟩) N N] := HD.out.x2.setOther (fun e => HD.out.n1 e.symm) _ _
      have y4 : Bx (W.drew.setCells R p (bts t.data.toList)) aa [.int .i64 (p : Int)] := by rw [← hp]; exact HD.out.x3.setOther (fun e => HD.out.n2 e.symm) _ _
      rw [bts_str]
      refine hK.out _ _ y3 (fun hHeld => ?_)
      have y5 := Bx.setOther (b := aa) y3 HD.out.n3 [.int .i64 ((p : Int) + (t.size : Int))] 0
      have z1 := y4.c1
      have z2 := y4.f1
      clear hK K HT HD H y3 y4 c1 c2
      generalize hUU : W.drew.setCells R p (bts t.data.toList) = UU at *
      refine wpAnyH_take (i := 8) (v := ?_) (oi := { dst := some 17, op := _, type := _, pos := _, after := _, guard := none }) rfl (by kernel_rfl) (by kernel_rfl) (by kernel_rfl) (fun _ _ _ h => h) (Or.inl ⟨by kernel_rfl, ?_⟩) (by assumption) ?_
      case refine_2 => (intro w9 hSw; clear hSw; (go_simp); (try omega); try with_reducible rfl)
      simp only [Act.put, List.setIfInBounds_toArray, List.set_cons_zero, List.set_cons_succ]
      refine wpAnyH_ready (rs := [9]) (by kernel_rfl) (by simp) (AllReadyH.cons (o := { dst := none, op := _, type := _, pos := _, after := _, guard := none }) rfl (fun K hK => ?_) AllReadyH.nil)
      go_simp
      refine hK.out _ _ y5 (fun hHeld => ?_)
      clear hK K hHeld y5
      refine wpAnyH_done (by kernel_rfl) ?_ _
      go_wp2_with fail
      exact bodyPost_end (v := .tuple #[]) (by simp [results, Tryz.results42, go_sem]) rfl ⟨⟨_, rfl⟩, HJ.out⟩
    ·
      refine step_copy_string rfl _ _ 76 9 rfl 5 Tryz.underlying76 size8 R p t.size t.size rfl t rfl (Nat.le_refl _) (fun j hj => (HT.out j hj).1) (fun j hj => (HT.out j hj).2) ?_
      have HJ : Hid (JW w R ra aa N (pre ++ t.data.toList) ((W.drew.setCells R p (bts t.data.toList)).setCell ⟨aa, 0, none⟩ (.int .i64 ((p : Int) + (t.size : Int))))) := by rw [← hp]; exact HD.out.put t (by rw [hp]; exact HF.out) _ rfl
      have y3 : Bx (W.drew.setCells R p (bts t.data.toList)) ra [.slice (some ⟨R, 0, none⟩) N N] := HD.out.x2.setOther (fun e => HD.out.n1 e.symm) _ _
      have y4 : Bx (W.drew.setCells R p (bts t.data.toList)) aa [.int .i64 (p : Int)] := by rw [← hp]; exact HD.out.x3.setOther (fun e => HD.out.n2 e.symm) _ _
      rw [bts_str]
      refine hK.out _ _ y3 (fun hHeld => ?_)
      have y5 := Bx.setOther (b := aa) y3 HD.out.n3 [.int .i64 ((p : Int) + (t.size : Int))] 0
      have z1 := y4.c1
      have z2 := y4.f1
      clear hK K HT HD H y3 y4 c1 c2
      generalize hUU : W.drew.setCells R p (bts t.data.toList) = UU at *
      refine wpAnyH_ready (rs := [0]) (by kernel_rfl) (by simp) (AllReadyH.cons (o := { dst := some 9, op := _, type := _, pos := _, after := _, guard := none }) rfl (fun K hK => ?_) AllReadyH.nil)
      go_simp
      refine hK.out _ _ hHeld (fun hHeld => ?_)
      clear hK K
      refine wpAnyH_take (i := 8) (v := ?_) (oi := { dst := some 17, op := _, type := _, pos := _, after := _, guard := none }) rfl (by kernel_rfl) (by kernel_rfl) (by kernel_rfl) (fun _ _ _ h => h) (Or.inl ⟨by kernel_rfl, ?_⟩) (by assumption) ?_
      case refine_2 => (intro w9 hSw; clear hSw; (go_simp); (try omega); try with_reducible rfl)
      simp only [Act.put, List.setIfInBounds_toArray, List.set_cons_zero, List.set_cons_succ]
      refine wpAnyH_ready (rs := [9]) (by kernel_rfl) (by simp) (AllReadyH.cons (o := { dst := none, op := _, type := _, pos := _, after := _, guard := none }) rfl (fun K hK => ?_) AllReadyH.nil)
      go_simp
      refine hK.out _ _ y5 (fun hHeld => ?_)
      clear hK K hHeld y5
      refine wpAnyH_done (by kernel_rfl) ?_ _
      go_wp2_with fail
      exact bodyPost_end (v := .tuple #[]) (by simp [results, Tryz.results42, go_sem]) rfl ⟨⟨_, rfl⟩, HJ.out⟩

set_option maxRecDepth 100000 in
set_option maxHeartbeats 4000000 in
theorem put_none (w : World) (R ra aa N : Nat) (pre : List UInt8) (W : World) (H : Hid (JW w R ra aa N pre W)) (hf : pre.length + 0 ≤ N) (hN : N ≤ 100000)  :
    Calls Tryz.prog 42 #[.string ⟨#[]⟩, .pointer (some ⟨aa, 0, none⟩), .pointer (some ⟨ra, 0, none⟩)] W fun e W' => (∃ v, e = .returned v) ∧ JW w R ra aa N (pre ++ []) W' := by
  obtain ⟨p, hp⟩ : ∃ p, pre.length = p := ⟨_, rfl⟩
  rw [hp] at hf
  have c1 : W.cell? ⟨aa, 0, none⟩ = some (.int .i64 (p : Int)) := by rw [← hp]; exact H.out.x3.c 0 rfl
  have c2 : W.cell? ⟨ra, 0, none⟩ = some (.slice (some ⟨R, 0, none⟩) N N) := H.out.x2.c 0 rfl
  have t1 : IntKind.i64.wrap ((p : Int)) = (p : Int) := by rw [IntKind.wrap_i64]; omega
  have t2 : (0 : Int) ≤ (p : Int) := by omega
  have t3 : (p : Int) ≤ (p : Int) := by omega
  have t4 : (p : Int) ≤ (N : Int) := by omega
  have HF : Hid (p + 0 ≤ N) := hf
  have HX2 : Hid (Bx W.drew ra [.slice (some ⟨R, 0, none⟩) N N]) := H.out.x2
  have HD : Hid (JW w R ra aa N pre W.drew) := H.out.mv (below_drew0 W)
  go_enter Tryz.func42, Tryz.ntmps42
  go_upto_region 1 with fail
  refine wp_region_held_drew (S := fun V : World => Bx V ra [.slice (some ⟨R, 0, none⟩) N N]) (by kernel_rfl) HX2.out (fun hHeld => ?_)
  refine wpAnyH_take (i := 1) (v := ?_) (oi := { dst := some 10, op := _, type := _, pos := _, after := _, guard := none }) rfl (by kernel_rfl) (by kernel_rfl) (by kernel_rfl) (fun _ _ _ h => h) (Or.inl ⟨by kernel_rfl, ?_⟩) (by assumption) ?_
  case refine_2 => (intro w9 hSw; have l0 := hSw.c 0 rfl; clear hSw; (go_simp); (try omega); try with_reducible rfl)
  simp only [Act.put, List.setIfInBounds_toArray, List.set_cons_zero, List.set_cons_succ]
  refine wpAnyH_take (i := 3) (v := ?_) (oi := { dst := some 12, op := _, type := _, pos := _, after := _, guard := none }) rfl (by kernel_rfl) (by kernel_rfl) (by kernel_rfl) (fun _ _ _ h => h) (Or.inl ⟨by kernel_rfl, ?_⟩) (by assumption) ?_
  case refine_2 => (intro w9 hSw; clear hSw; (go_simp); (try omega); try with_reducible rfl)
  simp only [Act.put, List.setIfInBounds_toArray, List.set_cons_zero, List.set_cons_succ]
  refine wpAnyH_take (i := 4) (v := ?_) (oi := { dst := some 13, op := _, type := _, pos := _, after := _, guard := none }) rfl (by kernel_rfl) (by kernel_rfl) (by kernel_rfl) (fun _ _ _ h => h) (Or.inl ⟨by kernel_rfl, ?_⟩) (by assumption) ?_
  case refine_2 => (intro w9 hSw; clear hSw; (go_simp); (try omega); try with_reducible rfl)
  simp only [Act.put, List.setIfInBounds_toArray, List.set_cons_zero, List.set_cons_succ]
  refine wpAnyH_take (i := 6) (v := ?_) (oi := { dst := some 15, op := _, type := _, pos := _, after := _, guard := none }) rfl (by kernel_rfl) (by kernel_rfl) (by kernel_rfl) (fun _ _ _ h => h) (Or.inl ⟨by kernel_rfl, ?_⟩) (by assumption) ?_
  case refine_2 => (intro w9 hSw; clear hSw; (go_simp); (try omega); try with_reducible rfl)
  simp only [Act.put, List.setIfInBounds_toArray, List.set_cons_zero, List.set_cons_succ]
  refine wpAnyH_ready (rs := [0, 2]) (by kernel_rfl) (by simp) (AllReadyH.cons (o := { dst := some 9, op := _, type := _, pos := _, after := _, guard := none }) rfl (fun K hK => ?_) (AllReadyH.cons (o := { dst := some 11, op := _, type := _, pos := _, after := _, guard := none }) rfl (fun K hK => ?_) AllReadyH.nil))
  ·
    go_simp
    refine hK.out _ _ hHeld (fun hHeld => ?_)
    clear hK K
    refine wpAnyH_ready (rs := [2]) (by kernel_rfl) (by simp) (AllReadyH.cons (o := { dst := some 11, op := _, type := _, pos := _, after := _, guard := none }) rfl (fun K hK => ?_) AllReadyH.nil)
    go_simp
    refine hK.out _ _ hHeld (fun hHeld => ?_)
    clear hK K
    refine wpAnyH_take (i := 5) (v := .slice (some ⟨R, 0, none⟩) 0 0) (oi := { dst := some 14, op := _, type := _, pos := _, after := _, guard := none }) rfl (by kernel_rfl) (by kernel_rfl) (by kernel_rfl) (fun _ _ _ h => h) (Or.inl ⟨by kernel_rfl, ?_⟩) (by assumption) ?_
    case refine_1 => (intro w9 hSw; clear hSw; (go_simp); (try omega); try with_reducible rfl)
    simp only [Act.put, List.setIfInBounds_toArray, List.set_cons_zero, List.set_cons_succ]
    refine wpAnyH_ready (rs := [7]) (by kernel_rfl) (by simp) (AllReadyH.cons (o := { dst := some 16, op := _, type := _, pos := _, after := _, guard := none }) rfl (fun K hK => ?_) AllReadyH.nil)
    refine step_copy_string rfl _ _ 76 9 rfl 5 Tryz.underlying76 size8 R 0 0 0 rfl ⟨#[]⟩ rfl (Nat.le_refl _) (fun j hj => absurd hj (Nat.not_lt_zero _)) (fun j hj => absurd hj (Nat.not_lt_zero _)) ?_
    have HJ : Hid (JW w R ra aa N (pre ++ []) (W.drew.setCell ⟨aa, 0, none⟩ (.int .i64 (p : Int)))) := by rw [← hp]; exact HD.out.put ⟨#[]⟩ (by rw [hp]; exact HF.out) _ (by show _ = _ + ((0 : Nat) : Int); omega)
    rw [show (List.map (fun x : UInt8 => Value.int .u8 (x.toNat : Int)) (ByteArray.data ⟨#[]⟩).toList) = [] from rfl, World.setCells]
    have y3 := HD.out.x2
    have y4 : Bx W.drew aa [.int .i64 (p : Int)] := by rw [← hp]; exact HD.out.x3
    refine hK.out _ _ y3 (fun hHeld => ?_)
    have y5 := Bx.setOther (b := aa) y3 HD.out.n3 [.int .i64 (p : Int)] 0
    have z1 := y4.c1
    have z2 := y4.f1
    clear hK K HD H y3 y4 c1 c2
    refine wpAnyH_take (i := 8) (v := ?_) (oi := { dst := some 17, op := _, type := _, pos := _, after := _, guard := none }) rfl (by kernel_rfl) (by kernel_rfl) (by kernel_rfl) (fun _ _ _ h => h) (Or.inl ⟨by kernel_rfl, ?_⟩) (by assumption) ?_
    case refine_2 => (intro w9 hSw; clear hSw; (go_simp); (try omega); try with_reducible rfl)
    simp only [Act.put, List.setIfInBounds_toArray, List.set_cons_zero, List.set_cons_succ]
    refine wpAnyH_ready (rs := [9]) (by kernel_rfl) (by simp) (AllReadyH.cons (o := { dst := none, op := _, type := _, pos := _, after := _, guard := none }) rfl (fun K hK => ?_) AllReadyH.nil)
    go_simp
    refine hK.out _ _ y5 (fun hHeld => ?_)
    clear hK K hHeld y5
    refine wpAnyH_done (by kernel_rfl) ?_ _
    go_wp2_with fail
    exact bodyPost_end (v := .tuple #[]) (by simp [results, Tryz.results42, go_sem]) rfl ⟨⟨_, rfl⟩, HJ.out⟩
  ·
    go_simp
    refine hK.out _ _ hHeld (fun hHeld => ?_)
    clear hK K
    refine wpAnyH_take (i := 5) (v := .slice (some ⟨R, 0, none⟩) 0 0) (oi := { dst := some 14, op := _, type := _, pos := _, after := _, guard := none }) rfl (by kernel_rfl) (by kernel_rfl) (by kernel_rfl) (fun _ _ _ h => h) (Or.inl ⟨by kernel_rfl, ?_⟩) (by assumption) ?_
    case refine_1 => (intro w9 hSw; clear hSw; (go_simp); (try omega); try with_reducible rfl)
    simp only [Act.put, List.setIfInBounds_toArray, List.set_cons_zero, List.set_cons_succ]
    refine wpAnyH_ready (rs := [0, 7]) (by kernel_rfl) (by simp) (AllReadyH.cons (o := { dst := some 9, op := _, type := _, pos := _, after := _, guard := none }) rfl (fun K hK => ?_) (AllReadyH.cons (o := { dst := some 16, op := _, type := _, pos := _, after := _, guard := none }) rfl (fun K hK => ?_) AllReadyH.nil))
    ·
      go_simp
      refine hK.out _ _ hHeld (fun hHeld => ?_)
      clear hK K
      refine wpAnyH_ready (rs := [7]) (by kernel_rfl) (by simp) (AllReadyH.cons (o := { dst := some 16, op := _, type := _, pos := _, after := _, guard := none }) rfl (fun K hK => ?_) AllReadyH.nil)
      refine step_copy_string rfl _ _ 76 9 rfl 5 Tryz.underlying76 size8 R 0 0 0 rfl ⟨#[]⟩ rfl (Nat.le_refl _) (fun j hj => absurd hj (Nat.not_lt_zero _)) (fun j hj => absurd hj (Nat.not_lt_zero _)) ?_
      have HJ : Hid (JW w R ra aa N (pre ++ []) (W.drew.setCell ⟨aa, 0, none⟩ (.int .i64 (p : Int)))) := by rw [← hp]; exact HD.out.put ⟨#[]⟩ (by rw [hp]; exact HF.out) _ (by show _ = _ + ((0 : Nat) : Int); omega)
      rw [show (List.map (fun x : UInt8 => Value.int .u8 (x.toNat : Int)) (ByteArray.data ⟨#[]⟩).toList) = [] from rfl, World.setCells]
      have y3 := HD.out.x2
      have y4 : Bx W.drew aa [.int .i64 (p : Int)] := by rw [← hp]; exact HD.out.x3
      refine hK.out _ _ y3 (fun hHeld => ?_)
      have y5 := Bx.setOther (b := aa) y3 HD.out.n3 [.int .i64 (p : Int)] 0
      have z1 := y4.c1
      have z2 := y4.f1
      clear hK K HD H y3 y4 c1 c2
      refine wpAnyH_take (i := 8) (v := ?_) (oi := { dst := some 17, op := _, type := _, pos := _, after := _, guard := none }) rfl (by kernel_rfl) (by kernel_rfl) (by kernel_rfl) (fun _ _ _ h => h) (Or.inl ⟨by kernel_rfl, ?_⟩) (by assumption) ?_
      case refine_2 => (intro w9 hSw; clear hSw; (go_simp); (try omega); try with_reducible rfl)
      simp only [Act.put, List.setIfInBounds_toArray, List.set_cons_zero, List.set_cons_succ]
      refine wpAnyH_ready (rs := [9]) (by kernel_rfl) (by simp) (AllReadyH.cons (o := { dst := none, op := _, type := _, pos := _, after := _, guard := none }) rfl (fun K hK => ?_) AllReadyH.nil)
      go_simp
      refine hK.out _ _ y5 (fun hHeld => ?_)
      clear hK K hHeld y5
      refine wpAnyH_done (by kernel_rfl) ?_ _
      go_wp2_with fail
      exact bodyPost_end (v := .tuple #[]) (by simp [results, Tryz.results42, go_sem]) rfl ⟨⟨_, rfl⟩, HJ.out⟩
    ·
      refine step_copy_string rfl _ _ 76 9 rfl 5 Tryz.underlying76 size8 R 0 0 0 rfl ⟨#[]⟩ rfl (Nat.le_refl _) (fun j hj => absurd hj (Nat.not_lt_zero _)) (fun j hj => absurd hj (Nat.not_lt_zero _)) ?_
      have HJ : Hid (JW w R ra aa N (pre ++ []) (W.drew.setCell ⟨aa, 0, none⟩ (.int .i64 (p : Int)))) := by rw [← hp]; exact HD.out.put ⟨#[]⟩ (by rw [hp]; exact HF.out) _ (by show _ = _ + ((0 : Nat) : Int); omega)
      rw [show (List.map (fun x : UInt8 => Value.int .u8 (x.toNat : Int)) (ByteArray.data ⟨#[]⟩).toList) = [] from rfl, World.setCells]
      have y3 := HD.out.x2
      have y4 : Bx W.drew aa [.int .i64 (p : Int)] := by rw [← hp]; exact HD.out.x3
      refine hK.out _ _ y3 (fun hHeld => ?_)
      have y5 := Bx.setOther (b := aa) y3 HD.out.n3 [.int .i64 (p : Int)] 0
      have z1 := y4.c1
      have z2 := y4.f1
      clear hK K HD H y3 y4 c1 c2
      refine wpAnyH_ready (rs := [0]) (by kernel_rfl) (by simp) (AllReadyH.cons (o := { dst := some 9, op := _, type := _, pos := _, after := _, guard := none }) rfl (fun K hK => ?_) AllReadyH.nil)
      go_simp
      refine hK.out _ _ hHeld (fun hHeld => ?_)
      clear hK K
      refine wpAnyH_take (i := 8) (v := ?_) (oi := { dst := some 17, op := _, type := _, pos := _, after := _, guard := none }) rfl (by kernel_rfl) (by kernel_rfl) (by kernel_rfl) (fun _ _ _ h => h) (Or.inl ⟨by kernel_rfl, ?_⟩) (by assumption) ?_
      case refine_2 => (intro w9 hSw; clear hSw; (go_simp); (try omega); try with_reducible rfl)
      simp only [Act.put, List.setIfInBounds_toArray, List.set_cons_zero, List.set_cons_succ]
      refine wpAnyH_ready (rs := [9]) (by kernel_rfl) (by simp) (AllReadyH.cons (o := { dst := none, op := _, type := _, pos := _, after := _, guard := none }) rfl (fun K hK => ?_) AllReadyH.nil)
      go_simp
      refine hK.out _ _ y5 (fun hHeld => ?_)
      clear hK K hHeld y5
      refine wpAnyH_done (by kernel_rfl) ?_ _
      go_wp2_with fail
      exact bodyPost_end (v := .tuple #[]) (by simp [results, Tryz.results42, go_sem]) rfl ⟨⟨_, rfl⟩, HJ.out⟩


theorem put_any (w : World) (R ra aa N : Nat) (pre : List UInt8) (W : World) (H : Hid (JW w R ra aa N pre W)) (t : ByteArray) (hf : pre.length + t.size ≤ N) (hN : N ≤ 100000) :
    Calls Tryz.prog 42 #[.string t, .pointer (some ⟨aa, 0, none⟩), .pointer (some ⟨ra, 0, none⟩)] W fun e W' => (∃ v, e = .returned v) ∧ JW w R ra aa N (pre ++ t.data.toList) W' := by
  by_cases h0 : 0 < t.size
  · exact put_some w R ra aa N pre W H t hf hN h0
  · obtain rfl : t = ⟨#[]⟩ := by
      have : t.size = 0 := by omega
      exact ByteArray.ext (Array.eq_empty_of_size_eq_zero this)
    exact put_none w R ra aa N pre W H hf hN
/-- so many bytes in all. -/
def szL : List ByteArray → Nat
  | [] => 0
  | a :: l => a.size + szL l
theorem szL_take {L : List ByteArray} {i : Nat} {t : ByteArray} (h : L[i]? = some t) : szL (L.take (i + 1)) = szL (L.take i) + t.size := by
  induction L generalizing i with
  | nil => simp at h
  | cons a l ih =>
    cases i with
    | zero => simp at h; subst h; simp [szL]
    | succ i => simp at h; simp only [List.take_succ_cons, szL]; rw [ih h]; omega
theorem szL_le {L : List ByteArray} (i : Nat) : szL (L.take i) ≤ szL L := by
  induction L generalizing i with
  | nil => simp
  | cons a l ih =>
    cases i with
    | zero => simp [szL]
    | succ i => simp only [List.take_succ_cons, szL]; have := ih i; omega
/-- what is written behind so many parts. -/
def wrP (m : ByteArray) (L : List ByteArray) : Nat → List UInt8
  | 0 => []
  | i + 1 => (if i = 0 then wrP m L i else wrP m L i ++ m.data.toList) ++ (L.getD i ⟨#[]⟩).data.toList
theorem wrP_len (m : ByteArray) (L : List ByteArray) : ∀ i, i ≤ L.length → (wrP m L i).length = (i - 1) * m.size + szL (L.take i)
  | 0, _ => by simp [wrP, szL]
  | i + 1, h => by
    have ih := wrP_len m L i (by omega)
    obtain ⟨t, ht⟩ : ∃ t, L[i]? = some t := ⟨_, List.getElem?_eq_getElem (by omega)⟩
    have hs : t.data.toList.length = t.size := Array.length_toList
    have hm : m.data.toList.length = m.size := Array.length_toList
    have hg : L.getD i ⟨#[]⟩ = t := by rw [List.getD_eq_getElem?_getD, ht]; rfl
    rw [wrP, szL_take ht, List.length_append, hg, hs]
    by_cases h0 : i = 0
    · subst h0; rw [if_pos rfl, ih]; simp
    · rw [if_neg h0, List.length_append, ih, hm]
      obtain ⟨k, rfl⟩ : ∃ k, i = k + 1 := ⟨i - 1, by omega⟩
      simp only [Nat.add_sub_cancel]
      rw [Nat.add_mul, Nat.one_mul]
      omega
/-- texts with a mark between them. -/
def jn (m : ByteArray) (L : List ByteArray) : ByteArray := ⟨(wrP m L L.length).toArray⟩

set_option maxRecDepth 100000 in
set_option maxHeartbeats 4000000 in
theorem joined_any (m : ByteArray) (L : List ByteArray) (a : Addr) (n c : Nat) (hn : L.length = n) (n1 : 1 ≤ n) (n2 : n ≤ 50) (hnc : n ≤ c) (hm : m.size ≤ 10) (hz : szL L ≤ 5000) (w : World) (X : Hid (∀ j t, L[j]? = some t → w.cell? (a.add j) = some (.string t))) :
    Calls Tryz.prog 20 #[.string m, .slice (some a) n c] w fun e w' => e = .returned (.string (jn m L)) ∧ Below w.heap.size w w' := by
  obtain ⟨M, hM⟩ : ∃ M : Nat, n - 1 = M := ⟨_, rfl⟩
  have hM50 : M ≤ 50 := by omega
  obtain ⟨P0, hP0⟩ : ∃ P0 : Nat, m.size * M = P0 := ⟨_, rfl⟩
  have hP1 : P0 ≤ 500 := by rw [← hP0]; exact Nat.le_trans (Nat.mul_le_mul hm hM50) (by decide)
  obtain ⟨Q, hQ⟩ : ∃ Q : Nat, szL L = Q := ⟨_, rfl⟩
  rw [hQ] at hz
  have hmx : max (0 : Int) ((n : Int) - 1) = (M : Int) := by omega
  have hmul : (m.size : Int) * (M : Int) = (P0 : Int) := by rw [← hP0, Int.natCast_mul]
  have HL : Hid (L.length = n) := hn
  have HQ : Hid (szL L = Q) := hQ
  have HP : Hid (m.size * M = P0) := hP0
  have HM : Hid (n - 1 = M) := hM
  have HZ : Hid (∀ i, szL (L.take i) ≤ Q) := fun i => by rw [← hQ]; exact szL_le i
  clear hn hQ hP0 hM
  have hm2 : (m.size : Int) ≤ 10 := by omega
  go_enter Tryz.func20, Tryz.ntmps20
  go_wp2_with fail
  go_loopw [5, 22] (fun sv iv wr => ∃ i s : Nat, iv = .int .i64 (i : Int) ∧ sv = .int .i64 (s : Int) ∧ i ≤ n ∧ wr = w ∧ Hid (s = P0 + szL (L.take i))) (fun _ iv _ => n - (intOf iv).toNat)
  case atStart => exact ⟨0, P0, rfl, rfl, Nat.zero_le _, rfl, show _ = _ by simp [szL]⟩
  case round =>
    obtain ⟨i, sm, rfl, rfl, hi, hw, HS⟩ := hrel
    obtain rfl := hw.symm
    clear hw
    by_cases hlt : i < n
    · have hlt' : (i : Int) < (n : Int) := by omega
      have i0 : (0 : Int) ≤ (i : Int) := by omega
      obtain ⟨t, ht⟩ : ∃ t, L[i]? = some t := ⟨_, List.getElem?_eq_getElem (by rw [HL.out]; exact hlt)⟩
      have hc := X.out i t ht
      have HS2 : Hid (sm + t.size = P0 + szL (L.take (i + 1))) := by show _ = _; rw [szL_take ht, HS.out]; omega
      have hb : sm + t.size ≤ 10000 := by have := HS2.out; have := HZ.out (i + 1); omega
      have hb' : (sm : Int) + (t.size : Int) ≤ 10000 := by omega
      clear ht HS
      go_wp2_with fail
      go_roundw
      case rel => exact ⟨i + 1, sm + t.size, by go_num, by go_num, by omega, by simp, HS2⟩
      case measure => simp [intOf]; omega
    · have hlt' : ¬ (i : Int) < (n : Int) := by omega
      have hin : i = n := by omega
      have HS2 : Hid (sm = P0 + Q) := by show _ = _; rw [HS.out, hin, List.take_of_length_le (by rw [HL.out]; exact Nat.le_refl _), HQ.out]
      have hsN : sm ≤ 100000 := by have := HS2.out; omega
      have hmk := make_by sm hsN w
      have HJ0 : Hid (JW w w.heap.size (w.heap.size + 1) (w.heap.size + 1 + 1) sm [] (((w.alloc (.cells (bts (List.replicate sm 0)).toArray 5)).alloc (.cells #[.slice (some ⟨w.heap.size, 0, none⟩) sm sm] 76)).alloc (.cells #[.int .i64 0] 3))) := by
        have k1 := (((BS.start w).new (bts (List.replicate sm 0)) 5 rfl).new [.slice (some ⟨w.heap.size, 0, none⟩) sm sm] 76 (b := w.heap.size + 1) (by simp)).new [.int .i64 0] 3 (b := w.heap.size + 2) (by simp)
        exact ⟨k1.1, Nat.le_refl _, by omega, by omega, by omega, by omega, by omega, Nat.zero_le _, k1.at _ (bts (List.replicate sm 0)) (by simp), k1.at _ _ (by simp), k1.at _ _ (by simp)⟩
      clear HS hin
      go_upto_region 8 with fail
      refine gen_to (fun V => Hid (JW w w.heap.size (w.heap.size + 1) (w.heap.size + 1 + 1) sm [] V)) HJ0 ?_
      clear HJ0 hmk
      intro W1 K1
      have hE : ∀ args w, (callFunc 42 args).run Tryz.prog w = .ok (.enter 42 args) w := enters_of Tryz.func42 (by kernel_rfl) rfl
      have HTL : Hid (∀ i, i ≤ n → (wrP m L i).length ≤ sm ∧ (i < n → ∀ t, L[i]? = some t → ((if i = 0 then wrP m L i else wrP m L i ++ m.data.toList).length + t.size ≤ sm))) := by
        intro i hi
        have e1 := wrP_len m L i (by rw [HL.out]; exact hi)
        have hmono : (i - 1) * m.size ≤ P0 := by rw [← HP.out, Nat.mul_comm m.size M]; exact Nat.mul_le_mul_right _ (by have := HM.out; omega)
        have hq := HZ.out i
        have hs := HS2.out
        refine ⟨by omega, fun hlt t ht => ?_⟩
        have e2 := wrP_len m L (i + 1) (by rw [HL.out]; omega)
        have hg : L.getD i ⟨#[]⟩ = t := by rw [List.getD_eq_getElem?_getD, ht]; rfl
        rw [wrP, List.length_append, hg, show t.data.toList.length = t.size from Array.length_toList] at e2
        have hmono2 : (i + 1 - 1) * m.size ≤ P0 := by rw [← HP.out, Nat.mul_comm m.size M]; exact Nat.mul_le_mul_right _ (by have := HM.out; omega)
        have hq2 := HZ.out (i + 1)
        omega
      go_wp2_with fail
      go_loopw [36] (fun iv wr => ∃ i : Nat, iv = .int .i64 (i : Int) ∧ i ≤ n ∧ Hid (JW w w.heap.size (w.heap.size + 1) (w.heap.size + 1 + 1) sm (wrP m L i) wr)) (fun iv _ => n - (intOf iv).toNat)
      case atStart => exact ⟨0, rfl, Nat.zero_le _, K1⟩
      case round =>
        clear K1
        obtain ⟨i, rfl, hi, HJ⟩ := hrel
        by_cases hlt : i < n
        · have hlt' : (i : Int) < (n : Int) := by omega
          have i0 : (0 : Int) ≤ (i : Int) := by omega
          obtain ⟨t, ht⟩ : ∃ t, L[i]? = some t := ⟨_, List.getElem?_eq_getElem (by rw [HL.out]; exact hlt)⟩
          have hc0 := X.out i t ht
          have hc : wr.cell? (a.add i) = some (.string t) := (HJ.out.below.cell (World.block_lt_of_cell? w _ hc0)).trans hc0
          have HT : Hid (L[i]? = some t) := ht
          clear ht hc0
          by_cases h0 : i = 0
          · subst h0
            have hc9 : wr.cell? a = some (.string t) := by unfold Addr.add at hc; simpa using hc
            go_wp2_with fail
            refine (put_any w _ _ _ sm _ _ HJ t ?_ hsN).mono ?_
            · have := (HTL.out 0 hi).2 hlt t HT.out; rw [if_pos rfl] at this; exact this
            rintro e wp ⟨⟨v, rfl⟩, HP1⟩
            have HP2 : Hid (JW w w.heap.size (w.heap.size + 1) (w.heap.size + 1 + 1) sm (wrP m L (0 + 1)) wp) := by rw [wrP, if_pos rfl, List.getD_eq_getElem?_getD, HT.out]; exact HP1
            clear HP1 HJ
            go_wp2_with fail
            go_roundw
            case rel => exact ⟨0 + 1, by go_num, by omega, HP2⟩
            case measure => simp [intOf]; omega
          · have h0' : (0 : Int) < (i : Int) := by omega
            go_wp2_with fail
            refine (put_any w _ _ _ sm _ _ HJ m ?_ hsN).mono ?_
            · have := (HTL.out i hi).2 hlt t HT.out; rw [if_neg h0, List.length_append, show m.data.toList.length = m.size from Array.length_toList] at this; omega
            rintro e wp ⟨⟨v, rfl⟩, HP1⟩
            have HP2 : Hid (JW w w.heap.size (w.heap.size + 1) (w.heap.size + 1 + 1) sm (wrP m L i ++ m.data.toList) wp) := HP1
            clear HP1 HJ
            go_wp2_with fail
            refine (put_any w _ _ _ sm _ _ HP2 t ?_ hsN).mono ?_
            · have := (HTL.out i hi).2 hlt t HT.out; rw [if_neg h0] at this; exact this
            rintro e wp2 ⟨⟨v2, rfl⟩, HP3⟩
            have HP4 : Hid (JW w w.heap.size (w.heap.size + 1) (w.heap.size + 1 + 1) sm (wrP m L (i + 1)) wp2) := by rw [wrP, if_neg h0, List.getD_eq_getElem?_getD, HT.out]; exact HP3
            clear HP2 HP3
            go_wp2_with fail
            go_roundw
            case rel => exact ⟨i + 1, by go_num, by omega, HP4⟩
            case measure => simp [intOf]; omega
        · have hlt' : ¬ (i : Int) < (n : Int) := by omega
          have hin : i = n := by omega
          have hlen : (wrP m L n).length = sm := by
            rw [wrP_len m L n (by rw [HL.out]; exact Nat.le_refl _), List.take_of_length_le (by rw [HL.out]; exact Nat.le_refl _), HQ.out, HS2.out, ← HP.out, HM.out, Nat.mul_comm]
          have hX1 : Bx wr w.heap.size (bts (wrP m L n)) := by
            have h := HJ.out.x1
            rw [hin, hlen, Nat.sub_self, List.replicate_zero, List.append_nil] at h
            exact h
          have c2 := HJ.out.x2.c1
          have hcb := run_convert_bytes_back (P := Tryz.prog) wr 76 9 5 ⟨w.heap.size, 0, none⟩ sm (wrP m L n) Tryz.underlying76 Tryz.underlying5 Tryz.underlying9 (fun j hj => by
            have := hX1.c j (v := .int .u8 (((wrP m L n)[j]'hj).toNat : Int)) (by simp [bts, hj])
            unfold Addr.add
            split
            · rename_i h; subst h; exact this
            · simpa using this)
          rw [hlen] at hcb
          have HB : Hid (Below w.heap.size w wr) := HJ.out.below
          have HR : Hid ((⟨(wrP m L n).toArray⟩ : ByteArray) = jn m L) := by show _ = _; unfold jn; rw [HL.out]
          clear HJ hX1 hlen hin
          go_wp2_with fail
          go_ret
          exact ⟨by rw [← HR.out]; rfl, HB.out⟩

end Go.Proofs.YtmohhbgmbicklaaGreatDoor
