/- Contract: src.readEra. -/
import Derived.Test.YtgnfkkcagbbhmaaGreatDoorSrOq
namespace Go.Proofs.YtgnfkkcagbbhmaaGreatDoor
open Go.RowKit Lin Sr
set_option linter.unusedVariables false

def zEra : List Value := [.int .i64 0, .string ⟨#[]⟩, .int .i64 0, .string ⟨#[]⟩, .int .i64 0, .int .i64 0, .int .i64 0, .int .i64 0, .int .i64 0, .int .i64 0, .int .u8 0]
theorem zEra_one : (#[.int .i64 0, .string ⟨#[]⟩, .int .i64 0, .string ⟨#[]⟩, .int .i64 0, .int .i64 0, .int .i64 0, .int .i64 0, .int .i64 0, .int .i64 0, .int .u8 0] : Array Value).all (·.oneCell') = true := all_oneCell_toArray (cs := zEra) (by unfold zEra; simp only [List.forall_mem_cons]; exact ⟨rfl, rfl, rfl, rfl, rfl, rfl, rfl, rfl, rfl, rfl, rfl, fun _ h => nomatch h⟩)
theorem era_one (rl fm : ByteArray) (off sv uy um ua ub uc ut uz : Int) : (#[.int .i64 off, .string rl, .int .i64 sv, .string fm, .int .i64 uy, .int .i64 um, .int .i64 ua, .int .i64 ub, .int .i64 uc, .int .i64 ut, .int .u8 uz] : Array Value).all (·.oneCell') = true :=
  all_oneCell_toArray (cs := [.int .i64 off, .string rl, .int .i64 sv, .string fm, .int .i64 uy, .int .i64 um, .int .i64 ua, .int .i64 ub, .int .i64 uc, .int .i64 ut, .int .u8 uz]) (by simp only [List.forall_mem_cons]; exact ⟨rfl, rfl, rfl, rfl, rfl, rfl, rfl, rfl, rfl, rfl, rfl, fun _ h => nomatch h⟩)
/-- the result's block, nothing said yet. -/
def ES (w : World) (W : World) : Prop := Below w.heap.size w W ∧ Bx W w.heap.size zEra
theorem ES.below {w W V : World} (h : ES w W) (hb : Below W.heap.size W V) : ES w V := ⟨h.1.trans (hb.mono h.1.size), h.2.below hb⟩
theorem ES.drew {w W : World} (h : ES w W) : ES w W.drew := ⟨h.1.drew, h.2⟩
theorem ES.new (w : World) : ES w (w.alloc (.cells #[.int .i64 0, .string ⟨#[]⟩, .int .i64 0, .string ⟨#[]⟩, .int .i64 0, .int .i64 0, .int .i64 0, .int .i64 0, .int .i64 0, .int .i64 0, .int .u8 0] 94)) := ⟨(Below.refl _ _).alloc (Nat.le_refl _) _, Bx.new w zEra _⟩
/-- what stands while an era is handed over. -/
def EH (w : World) (gb sb ub : Nat) (L C U : List Value) (W : World) : Prop := LS w gb L 11 W ∧ Bx W sb C ∧ Bx W ub U
theorem EH.drew {w W : World} {gb sb ub : Nat} {L C U : List Value} (h : EH w gb sb ub L C U W) : EH w gb sb ub L C U W.drew := ⟨LS.drew h.1, h.2.1, h.2.2⟩

set_option maxRecDepth 100000 in
set_option maxHeartbeats 8000000 in
theorem readEra_len (a : Option Addr) (n c : Nat) (hn : n < 3) (w : World) :
    Calls Tryz.prog 77 #[.slice a n c] w fun e w' => e = .returned (.tuple #[.agg #[.int .i64 0, .string ⟨#[]⟩, .int .i64 0, .string ⟨#[]⟩, .int .i64 0, .int .i64 0, .int .i64 0, .int .i64 0, .int .i64 0, .int .i64 0, .int .u8 0], .bool false]) ∧ Below w.heap.size w w' := by
  have hn' : (n : Int) < 3 := by omega
  have E0 : Hid (ES w _) := ES.new w
  go_enter Tryz.func77, Tryz.ntmps77
  go_wp2_with (refine wpList_store_mid rfl 94 _ _ rfl w.heap.size 0 #[.int .i64 0, .string ⟨#[]⟩, .int .i64 0, .string ⟨#[]⟩, .int .i64 0, .int .i64 0, .int .i64 0, .int .i64 0, .int .i64 0, .int .i64 0, .int .u8 0] rfl rfl E0.out.2.there (by kernel_rfl) zEra_one ?_; refine gen_list (fun V => Bx V w.heap.size zEra ∧ Below w.heap.size w V) ⟨E0.out.2.setAll zEra rfl, below_setCells (Nat.le_refl _) zEra _ 0 E0.out.1⟩ ?_; rintro w4 ⟨X4, B4⟩)
  have y0 := X4.c 0 rfl
  have y1 := X4.c 1 rfl
  have y2 := X4.c 2 rfl
  have y3 := X4.c 3 rfl
  have y4 := X4.c 4 rfl
  have y5 := X4.c 5 rfl
  have y6 := X4.c 6 rfl
  have y7 := X4.c 7 rfl
  have y8 := X4.c 8 rfl
  have y9 := X4.c 9 rfl
  have y10 := X4.c 10 rfl
  have HB : Hid (Below w.heap.size w w4) := B4
  clear X4 B4
  refine bodyPost_ret (v := .tuple #[.agg #[.int .i64 0, .string ⟨#[]⟩, .int .i64 0, .string ⟨#[]⟩, .int .i64 0, .int .i64 0, .int .i64 0, .int .i64 0, .int .i64 0, .int .i64 0, .int .u8 0], .bool false]) (by simp [results, Tryz.results77, go_sem, y0, y1, y2, y3, y4, y5, y6, y7, y8, y9, y10]) rfl ⟨rfl, HB.out⟩

set_option maxRecDepth 100000 in
set_option maxHeartbeats 8000000 in
theorem readEra_no1 (f0 f1 f2 : ByteArray) (rl fm : ByteArray) (off sv uy um ua ub uc ut uz : Int) (b0 b1 b2 ub0 : Bool) (rs : List Rdr) (hrs : Hid (rs = [⟨212, .agg #[.int .i64 (-50400), .int .i64 50400], 205, f0, 2, .int .i64 off, b0⟩, ⟨178, .agg #[], 166, f1, 183, .agg #[.string rl, .int .i64 sv], b1⟩, ⟨179, .agg #[], 167, f2, 9, .string fm, b2⟩])) (HK : Hid (∀ r ∈ rs, r.ok)) (hno : Hid (rdL rs [] = none)) 
    (k g o cp : Nat) (w : World) (hg : g < w.heap.size) (hcp : k + 3 ≤ cp) (HF : Hid (∀ j r, rs[j]? = some r → w.cell? ⟨g, o + j, none⟩ = some (.string r.f)))
    (A : Option Addr) (hA : Hid ((if cp = 3 then some ⟨g, o, none⟩ else some ⟨g, o + 3, none⟩) = A)) (UR : Hid (∀ W : World, Below w.heap.size w W → Calls Tryz.prog 111 #[.slice A k (cp - 3)] W fun e W' => e = .returned (.tuple #[.agg #[.int .i64 uy, .int .i64 um, .int .i64 ua, .int .i64 ub, .int .i64 uc, .int .i64 ut, .int .u8 uz], .bool ub0]) ∧ Below W.heap.size W W')) :
    Calls Tryz.prog 77 #[.slice (some ⟨g, o, none⟩) (k + 3) cp] w fun e w' => e = .returned (.tuple #[.agg #[.int .i64 0, .string ⟨#[]⟩, .int .i64 0, .string ⟨#[]⟩, .int .i64 0, .int .i64 0, .int .i64 0, .int .i64 0, .int .i64 0, .int .i64 0, .int .u8 0], .bool false]) ∧ Below w.heap.size w w' := by
  have hlen : rs.length = 3 := by rw [hrs.out]; rfl
  have E0 : Hid (ES w _) := ES.new w
  have hcp1 : 3 ≤ cp := by omega
  have hk3 : ¬ ((k + 3 : Nat) : Int) < 3 := by omega
  have hk4 : (3 : Int) ≤ (cp : Int) := by omega
  have hk5 : ((k + 3 : Nat) : Int) ≤ (cp : Int) := by omega
  go_enter Tryz.func77, Tryz.ntmps77
  go_upto_region 3 with fail
  refine gen_code (ES w) E0.out ?_
  clear E0
  intro w1 hE
  have KK : Hid (ES w w1) := hE
  clear hE
  go_wp2_with fail
  refine wp_region_held_drew (S := fun _ => True) (by kernel_rfl) trivial (fun hHeld => ?_)
  refine gen_any (ES w) KK.out.drew ?_
  clear hHeld KK
  intro v0 hE0
  have KK : Hid (ES w v0) := hE0
  clear hE0
  have hHeld : True := trivial
  refine wpAnyH_take (i := 0) (v := ?_) (oi := { dst := some 14, op := _, type := _, pos := _, after := _, guard := none }) rfl (by kernel_rfl) (by kernel_rfl) (by kernel_rfl) (fun _ _ _ h => h) (Or.inl ⟨by kernel_rfl, ?_⟩) (by assumption) ?_
  case refine_2 => (intro w9 hSw; clear hSw; go_simp; try with_reducible rfl)
  simp only [Act.put, List.setIfInBounds_toArray, List.set_cons_zero, List.set_cons_succ]
  refine wpAnyH_take (i := 1) (v := ?_) (oi := { dst := some 15, op := _, type := _, pos := _, after := _, guard := none }) rfl (by kernel_rfl) (by kernel_rfl) (by kernel_rfl) (fun _ _ _ h => h) (Or.inl ⟨by kernel_rfl, ?_⟩) (by assumption) ?_
  case refine_2 => (intro w9 hSw; clear hSw; go_simp; try with_reducible rfl)
  simp only [Act.put, List.setIfInBounds_toArray, List.set_cons_zero, List.set_cons_succ]
  refine wpAnyH_take (i := 3) (v := ?_) (oi := { dst := some 17, op := _, type := _, pos := _, after := _, guard := none }) rfl (by kernel_rfl) (by kernel_rfl) (by kernel_rfl) (fun _ _ _ h => h) (Or.inl ⟨by kernel_rfl, ?_⟩) (by assumption) ?_
  case refine_2 => (intro w9 hSw; clear hSw; go_simp; try with_reducible rfl)
  simp only [Act.put, List.setIfInBounds_toArray, List.set_cons_zero, List.set_cons_succ]
  refine wpAnyH_take (i := 4) (v := ?_) (oi := { dst := some 18, op := _, type := _, pos := _, after := _, guard := none }) rfl (by kernel_rfl) (by kernel_rfl) (by kernel_rfl) (fun _ _ _ h => h) (Or.inl ⟨by kernel_rfl, ?_⟩) (by assumption) ?_
  case refine_2 => (intro w9 hSw; clear hSw; go_simp; try with_reducible rfl)
  simp only [Act.put, List.setIfInBounds_toArray, List.set_cons_zero, List.set_cons_succ]
  refine wpAnyH_take (i := 5) (v := ?_) (oi := { dst := some 19, op := _, type := _, pos := _, after := _, guard := none }) rfl (by kernel_rfl) (by kernel_rfl) (by kernel_rfl) (fun _ _ _ h => h) (Or.inl ⟨by kernel_rfl, ?_⟩) (by assumption) ?_
  case refine_2 => (intro w9 hSw; clear hSw; go_simp; try with_reducible rfl)
  simp only [Act.put, List.setIfInBounds_toArray, List.set_cons_zero, List.set_cons_succ]
  refine wpAnyH_take (i := 6) (v := ?_) (oi := { dst := some 20, op := _, type := _, pos := _, after := _, guard := none }) rfl (by kernel_rfl) (by kernel_rfl) (by kernel_rfl) (fun _ _ _ h => h) (Or.inl ⟨by kernel_rfl, ?_⟩) (by assumption) ?_
  case refine_2 => (intro w9 hSw; clear hSw; go_simp; try with_reducible rfl)
  simp only [Act.put, List.setIfInBounds_toArray, List.set_cons_zero, List.set_cons_succ]
  refine wpAnyH_ready (rs := [2]) (by kernel_rfl) (by simp) (AllReadyH.cons (o := { dst := some 16, op := _, type := _, pos := _, after := _, guard := none }) rfl (fun K hK => ?_) AllReadyH.nil)
  go_simp
  refine (offsetR _).mono ?_
  rintro e v1 ⟨rfl, hb1⟩
  refine hK.out _ _ trivial (fun hHeld => ?_)
  replace KK : Hid (ES w v1) := KK.out.below hb1
  clear hK K hb1
  refine wpAnyH_ready (rs := [7]) (by kernel_rfl) (by simp) (AllReadyH.cons (o := { dst := some 21, op := _, type := _, pos := _, after := _, guard := none }) rfl (fun K hK => ?_) AllReadyH.nil)
  go_simp
  refine hK.out _ _ trivial (fun hHeld => ?_)
  obtain ⟨rb, hrb⟩ : ∃ rb, rb = v1.heap.size := ⟨_, rfl⟩
  refine gen_any (fun V' => ES w V' ∧ Bx V' rb [.iface 212 (.agg #[.int .i64 (-50400), .int .i64 50400]), .iface 178 (.agg #[]), .iface 179 (.agg #[])]) ⟨KK.out.below ((Below.refl _ _).alloc (Nat.le_refl _) _), by rw [hrb]; exact Bx.new _ [.iface 212 (.agg #[.int .i64 (-50400), .int .i64 50400]), .iface 178 (.agg #[]), .iface 179 (.agg #[])] _⟩ ?_
  have hrw : w.heap.size < rb := by rw [hrb]; exact KK.out.2.1
  rw [← hrb]
  clear hHeld KK hrb hK K
  rintro v2 ⟨kk, HR⟩
  have KK : Hid (ES w v2) := kk
  have HRB : Hid (Bx v2 rb _) := HR
  clear kk HR
  have hHeld : True := trivial
  refine wpAnyH_ready (rs := [8]) (by kernel_rfl) (by simp) (AllReadyH.cons (o := { dst := some 22, op := _, type := _, pos := _, after := _, guard := none }) rfl (fun K hK => ?_) AllReadyH.nil)
  go_simp
  refine (readAll_any rs 3 hlen g o rb 0 cp 3 _ HK (Nat.lt_of_lt_of_le hg KK.out.1.size) HRB.out.1 (by decide) (fun j r hj => (KK.out.1.cell hg).trans (HF.out j r hj)) (fun j r hj => ?_) (by omega) (Nat.le_refl _)).mono ?_
  · have e1 := hrs.out
    subst e1
    have := HRB.out.c j (v := .iface r.T r.v) (by have q := congrArg (Option.map (fun r : Rdr => Value.iface r.T r.v)) hj; rw [← List.getElem?_map] at q; exact q)
    rw [Nat.zero_add]
    exact this
  rintro e v3 ⟨hb3, hR⟩
  rw [hno.out] at hR
  have hR' : e = .returned (.tuple #[.slice none 0 0, .bool false]) := hR
  subst hR'
  clear hR
  refine hK.out _ _ trivial (fun hHeld => ?_)
  have hRv0 := HRB.out.1
  have hRv : rb < v3.heap.size := Nat.lt_of_lt_of_le HRB.out.1 hb3.size
  replace KK : Hid (ES w v3) := KK.out.below hb3
  clear hK K hb3 HRB
  refine wpAnyH_take (i := 9) (v := ?_) (oi := { dst := some 13, op := _, type := _, pos := _, after := _, guard := none }) rfl (by kernel_rfl) (by kernel_rfl) (by kernel_rfl) (fun _ _ _ h => h) (Or.inl ⟨by kernel_rfl, ?_⟩) (by assumption) ?_
  case refine_2 => (intro w9 hSw; clear hSw; go_simp; try with_reducible rfl)
  simp only [Act.put, List.setIfInBounds_toArray, List.set_cons_zero, List.set_cons_succ]
  refine wpAnyH_take (i := 10) (v := ?_) (oi := { dst := some 23, op := _, type := _, pos := _, after := _, guard := none }) rfl (by kernel_rfl) (by kernel_rfl) (by kernel_rfl) (fun _ _ _ h => h) (Or.inl ⟨by kernel_rfl, ?_⟩) (by assumption) ?_
  case refine_2 => (intro w9 hSw; clear hSw; go_simp; try with_reducible rfl)
  simp only [Act.put, List.setIfInBounds_toArray, List.set_cons_zero, List.set_cons_succ]
  refine wpAnyH_take (i := 11) (v := ?_) (oi := { dst := some 24, op := _, type := _, pos := _, after := _, guard := none }) rfl (by kernel_rfl) (by kernel_rfl) (by kernel_rfl) (fun _ _ _ h => h) (Or.inl ⟨by kernel_rfl, ?_⟩) (by assumption) ?_
  case refine_2 => (intro w9 hSw; clear hSw; go_simp; try with_reducible rfl)
  simp only [Act.put, List.setIfInBounds_toArray, List.set_cons_zero, List.set_cons_succ]
  refine wpAnyH_take (i := 12) (v := ?_) (oi := { dst := some 4, op := _, type := _, pos := _, after := _, guard := none }) rfl (by kernel_rfl) (by kernel_rfl) (by kernel_rfl) (fun _ _ _ h => h) (Or.inl ⟨by kernel_rfl, ?_⟩) (by assumption) ?_
  case refine_2 => (intro w9 hSw; clear hSw; go_simp; try with_reducible rfl)
  simp only [Act.put, List.setIfInBounds_toArray, List.set_cons_zero, List.set_cons_succ]
  refine wpAnyH_take (i := 13) (v := ?_) (oi := { dst := some 5, op := _, type := _, pos := _, after := _, guard := none }) rfl (by kernel_rfl) (by kernel_rfl) (by kernel_rfl) (fun _ _ _ h => h) (Or.inl ⟨by kernel_rfl, ?_⟩) (by assumption) ?_
  case refine_2 => (intro w9 hSw; clear hSw; go_simp; try with_reducible rfl)
  simp only [Act.put, List.setIfInBounds_toArray, List.set_cons_zero, List.set_cons_succ]
  refine wpAnyH_done (by kernel_rfl) ?_ _
  clear hHeld
  have hA2 : _ = _ := hA.out
  go_wp2_with fail
  refine (UR.out _ (KK.out.1)).mono ?_
  rintro e w5 ⟨rfl, hb5⟩
  have K5 : Hid (ES w w5) := KK.out.below hb5
  clear hb5 KK
  have K6 : Hid (ES w (w5.alloc (.cells #[.int .i64 uy, .int .i64 um, .int .i64 ua, .int .i64 ub, .int .i64 uc, .int .i64 ut, .int .u8 uz] 92))) := K5.out.below ((Below.refl _ _).alloc (Nat.le_refl _) _)
  clear K5
  go_wp2_with (refine wpList_store_mid rfl 94 _ _ rfl w.heap.size 0 #[.int .i64 0, .string ⟨#[]⟩, .int .i64 0, .string ⟨#[]⟩, .int .i64 0, .int .i64 0, .int .i64 0, .int .i64 0, .int .i64 0, .int .i64 0, .int .u8 0] rfl rfl K6.out.2.there (by kernel_rfl) zEra_one ?_; refine gen_list (fun V => Bx V w.heap.size zEra ∧ Below w.heap.size w V) ⟨K6.out.2.setAll zEra rfl, below_setCells (Nat.le_refl _) zEra _ 0 K6.out.1⟩ ?_; rintro w7 ⟨X4, B4⟩)
  have y0 := X4.c 0 rfl
  have y1 := X4.c 1 rfl
  have y2 := X4.c 2 rfl
  have y3 := X4.c 3 rfl
  have y4 := X4.c 4 rfl
  have y5 := X4.c 5 rfl
  have y6 := X4.c 6 rfl
  have y7 := X4.c 7 rfl
  have y8 := X4.c 8 rfl
  have y9 := X4.c 9 rfl
  have y10 := X4.c 10 rfl
  have HB : Hid (Below w.heap.size w w7) := B4
  clear X4 B4
  refine bodyPost_ret (v := .tuple #[.agg #[.int .i64 0, .string ⟨#[]⟩, .int .i64 0, .string ⟨#[]⟩, .int .i64 0, .int .i64 0, .int .i64 0, .int .i64 0, .int .i64 0, .int .i64 0, .int .u8 0], .bool false]) (by simp [results, Tryz.results77, go_sem, y0, y1, y2, y3, y4, y5, y6, y7, y8, y9, y10]) rfl ⟨rfl, HB.out⟩

set_option maxRecDepth 100000 in
set_option maxHeartbeats 8000000 in
theorem readEra_no2 (f0 f1 f2 : ByteArray) (rl fm : ByteArray) (off sv uy um ua ub uc ut uz : Int) (rs : List Rdr) (hrs : Hid (rs = [⟨212, .agg #[.int .i64 (-50400), .int .i64 50400], 205, f0, 2, .int .i64 off, true⟩, ⟨178, .agg #[], 166, f1, 183, .agg #[.string rl, .int .i64 sv], true⟩, ⟨179, .agg #[], 167, f2, 9, .string fm, true⟩])) (HK : Hid (∀ r ∈ rs, r.ok)) 
    (k g o cp : Nat) (w : World) (hg : g < w.heap.size) (hcp : k + 3 ≤ cp) (HF : Hid (∀ j r, rs[j]? = some r → w.cell? ⟨g, o + j, none⟩ = some (.string r.f)))
    (A : Option Addr) (hA : Hid ((if cp = 3 then some ⟨g, o, none⟩ else some ⟨g, o + 3, none⟩) = A)) (UR : Hid (∀ W : World, Below w.heap.size w W → Calls Tryz.prog 111 #[.slice A k (cp - 3)] W fun e W' => e = .returned (.tuple #[.agg #[.int .i64 uy, .int .i64 um, .int .i64 ua, .int .i64 ub, .int .i64 uc, .int .i64 ut, .int .u8 uz], .bool false]) ∧ Below W.heap.size W W')) :
    Calls Tryz.prog 77 #[.slice (some ⟨g, o, none⟩) (k + 3) cp] w fun e w' => e = .returned (.tuple #[.agg #[.int .i64 0, .string ⟨#[]⟩, .int .i64 0, .string ⟨#[]⟩, .int .i64 0, .int .i64 0, .int .i64 0, .int .i64 0, .int .i64 0, .int .i64 0, .int .u8 0], .bool false]) ∧ Below w.heap.size w w' := by
  have hlen : rs.length = 3 := by rw [hrs.out]; rfl
  have hL : Hid (rdL rs [] = some [.iface 2 (.int .i64 off), .iface 183 (.agg #[.string rl, .int .i64 sv]), .iface 9 (.string fm)]) := by show _ = _; rw [hrs.out]; rfl
  have E0 : Hid (ES w _) := ES.new w
  have hcp1 : 3 ≤ cp := by omega
  have hk3 : ¬ ((k + 3 : Nat) : Int) < 3 := by omega
  have hk4 : (3 : Int) ≤ (cp : Int) := by omega
  have hk5 : ((k + 3 : Nat) : Int) ≤ (cp : Int) := by omega
  go_enter Tryz.func77, Tryz.ntmps77
  go_upto_region 3 with fail
  refine gen_code (ES w) E0.out ?_
  clear E0
  intro w1 hE
  have KK : Hid (ES w w1) := hE
  clear hE
  go_wp2_with fail
  refine wp_region_held_drew (S := fun _ => True) (by kernel_rfl) trivial (fun hHeld => ?_)
  refine gen_any (ES w) KK.out.drew ?_
  clear hHeld KK
  intro v0 hE0
  have KK : Hid (ES w v0) := hE0
  clear hE0
  have hHeld : True := trivial
  refine wpAnyH_take (i := 0) (v := ?_) (oi := { dst := some 14, op := _, type := _, pos := _, after := _, guard := none }) rfl (by kernel_rfl) (by kernel_rfl) (by kernel_rfl) (fun _ _ _ h => h) (Or.inl ⟨by kernel_rfl, ?_⟩) (by assumption) ?_
  case refine_2 => (intro w9 hSw; clear hSw; go_simp; try with_reducible rfl)
  simp only [Act.put, List.setIfInBounds_toArray, List.set_cons_zero, List.set_cons_succ]
  refine wpAnyH_take (i := 1) (v := ?_) (oi := { dst := some 15, op := _, type := _, pos := _, after := _, guard := none }) rfl (by kernel_rfl) (by kernel_rfl) (by kernel_rfl) (fun _ _ _ h => h) (Or.inl ⟨by kernel_rfl, ?_⟩) (by assumption) ?_
  case refine_2 => (intro w9 hSw; clear hSw; go_simp; try with_reducible rfl)
  simp only [Act.put, List.setIfInBounds_toArray, List.set_cons_zero, List.set_cons_succ]
  refine wpAnyH_take (i := 3) (v := ?_) (oi := { dst := some 17, op := _, type := _, pos := _, after := _, guard := none }) rfl (by kernel_rfl) (by kernel_rfl) (by kernel_rfl) (fun _ _ _ h => h) (Or.inl ⟨by kernel_rfl, ?_⟩) (by assumption) ?_
  case refine_2 => (intro w9 hSw; clear hSw; go_simp; try with_reducible rfl)
  simp only [Act.put, List.setIfInBounds_toArray, List.set_cons_zero, List.set_cons_succ]
  refine wpAnyH_take (i := 4) (v := ?_) (oi := { dst := some 18, op := _, type := _, pos := _, after := _, guard := none }) rfl (by kernel_rfl) (by kernel_rfl) (by kernel_rfl) (fun _ _ _ h => h) (Or.inl ⟨by kernel_rfl, ?_⟩) (by assumption) ?_
  case refine_2 => (intro w9 hSw; clear hSw; go_simp; try with_reducible rfl)
  simp only [Act.put, List.setIfInBounds_toArray, List.set_cons_zero, List.set_cons_succ]
  refine wpAnyH_take (i := 5) (v := ?_) (oi := { dst := some 19, op := _, type := _, pos := _, after := _, guard := none }) rfl (by kernel_rfl) (by kernel_rfl) (by kernel_rfl) (fun _ _ _ h => h) (Or.inl ⟨by kernel_rfl, ?_⟩) (by assumption) ?_
  case refine_2 => (intro w9 hSw; clear hSw; go_simp; try with_reducible rfl)
  simp only [Act.put, List.setIfInBounds_toArray, List.set_cons_zero, List.set_cons_succ]
  refine wpAnyH_take (i := 6) (v := ?_) (oi := { dst := some 20, op := _, type := _, pos := _, after := _, guard := none }) rfl (by kernel_rfl) (by kernel_rfl) (by kernel_rfl) (fun _ _ _ h => h) (Or.inl ⟨by kernel_rfl, ?_⟩) (by assumption) ?_
  case refine_2 => (intro w9 hSw; clear hSw; go_simp; try with_reducible rfl)
  simp only [Act.put, List.setIfInBounds_toArray, List.set_cons_zero, List.set_cons_succ]
  refine wpAnyH_ready (rs := [2]) (by kernel_rfl) (by simp) (AllReadyH.cons (o := { dst := some 16, op := _, type := _, pos := _, after := _, guard := none }) rfl (fun K hK => ?_) AllReadyH.nil)
  go_simp
  refine (offsetR _).mono ?_
  rintro e v1 ⟨rfl, hb1⟩
  refine hK.out _ _ trivial (fun hHeld => ?_)
  replace KK : Hid (ES w v1) := KK.out.below hb1
  clear hK K hb1
  refine wpAnyH_ready (rs := [7]) (by kernel_rfl) (by simp) (AllReadyH.cons (o := { dst := some 21, op := _, type := _, pos := _, after := _, guard := none }) rfl (fun K hK => ?_) AllReadyH.nil)
  go_simp
  refine hK.out _ _ trivial (fun hHeld => ?_)
  obtain ⟨rb, hrb⟩ : ∃ rb, rb = v1.heap.size := ⟨_, rfl⟩
  refine gen_any (fun V' => ES w V' ∧ Bx V' rb [.iface 212 (.agg #[.int .i64 (-50400), .int .i64 50400]), .iface 178 (.agg #[]), .iface 179 (.agg #[])]) ⟨KK.out.below ((Below.refl _ _).alloc (Nat.le_refl _) _), by rw [hrb]; exact Bx.new _ [.iface 212 (.agg #[.int .i64 (-50400), .int .i64 50400]), .iface 178 (.agg #[]), .iface 179 (.agg #[])] _⟩ ?_
  have hrw : w.heap.size < rb := by rw [hrb]; exact KK.out.2.1
  rw [← hrb]
  clear hHeld KK hrb hK K
  rintro v2 ⟨kk, HR⟩
  have KK : Hid (ES w v2) := kk
  have HRB : Hid (Bx v2 rb _) := HR
  clear kk HR
  have hHeld : True := trivial
  refine wpAnyH_ready (rs := [8]) (by kernel_rfl) (by simp) (AllReadyH.cons (o := { dst := some 22, op := _, type := _, pos := _, after := _, guard := none }) rfl (fun K hK => ?_) AllReadyH.nil)
  go_simp
  refine (readAll_any rs 3 hlen g o rb 0 cp 3 _ HK (Nat.lt_of_lt_of_le hg KK.out.1.size) HRB.out.1 (by decide) (fun j r hj => (KK.out.1.cell hg).trans (HF.out j r hj)) (fun j r hj => ?_) (by omega) (Nat.le_refl _)).mono ?_
  · have e1 := hrs.out
    subst e1
    have := HRB.out.c j (v := .iface r.T r.v) (by have q := congrArg (Option.map (fun r : Rdr => Value.iface r.T r.v)) hj; rw [← List.getElem?_map] at q; exact q)
    rw [Nat.zero_add]
    exact this
  rintro e v3 ⟨hb3, hR⟩
  rw [hL.out] at hR
  obtain ⟨v, hv, hO⟩ := hR
  subst hv
  have HO : Hid (World.ownsRow v3 _ 20 1 v _ _) := hO
  clear hO
  refine hK.out _ _ trivial (fun hHeld => ?_)
  have hRv0 := HRB.out.1
  have hRv : rb < v3.heap.size := Nat.lt_of_lt_of_le HRB.out.1 hb3.size
  replace KK : Hid (ES w v3) := KK.out.below hb3
  clear hK K hb3 HRB
  refine wpAnyH_take (i := 9) (v := ?_) (oi := { dst := some 13, op := _, type := _, pos := _, after := _, guard := none }) rfl (by kernel_rfl) (by kernel_rfl) (by kernel_rfl) (fun _ _ _ h => h) (Or.inl ⟨by kernel_rfl, ?_⟩) (by assumption) ?_
  case refine_2 => (intro w9 hSw; clear hSw; go_simp; try with_reducible rfl)
  simp only [Act.put, List.setIfInBounds_toArray, List.set_cons_zero, List.set_cons_succ]
  refine wpAnyH_take (i := 10) (v := ?_) (oi := { dst := some 23, op := _, type := _, pos := _, after := _, guard := none }) rfl (by kernel_rfl) (by kernel_rfl) (by kernel_rfl) (fun _ _ _ h => h) (Or.inl ⟨by kernel_rfl, ?_⟩) (by assumption) ?_
  case refine_2 => (intro w9 hSw; clear hSw; go_simp; try with_reducible rfl)
  simp only [Act.put, List.setIfInBounds_toArray, List.set_cons_zero, List.set_cons_succ]
  refine wpAnyH_take (i := 11) (v := ?_) (oi := { dst := some 24, op := _, type := _, pos := _, after := _, guard := none }) rfl (by kernel_rfl) (by kernel_rfl) (by kernel_rfl) (fun _ _ _ h => h) (Or.inl ⟨by kernel_rfl, ?_⟩) (by assumption) ?_
  case refine_2 => (intro w9 hSw; clear hSw; go_simp; try with_reducible rfl)
  simp only [Act.put, List.setIfInBounds_toArray, List.set_cons_zero, List.set_cons_succ]
  refine wpAnyH_take (i := 12) (v := ?_) (oi := { dst := some 4, op := _, type := _, pos := _, after := _, guard := none }) rfl (by kernel_rfl) (by kernel_rfl) (by kernel_rfl) (fun _ _ _ h => h) (Or.inl ⟨by kernel_rfl, ?_⟩) (by assumption) ?_
  case refine_2 => (intro w9 hSw; clear hSw; go_simp; try with_reducible rfl)
  simp only [Act.put, List.setIfInBounds_toArray, List.set_cons_zero, List.set_cons_succ]
  refine wpAnyH_take (i := 13) (v := ?_) (oi := { dst := some 5, op := _, type := _, pos := _, after := _, guard := none }) rfl (by kernel_rfl) (by kernel_rfl) (by kernel_rfl) (fun _ _ _ h => h) (Or.inl ⟨by kernel_rfl, ?_⟩) (by assumption) ?_
  case refine_2 => (intro w9 hSw; clear hSw; go_simp; try with_reducible rfl)
  simp only [Act.put, List.setIfInBounds_toArray, List.set_cons_zero, List.set_cons_succ]
  refine wpAnyH_done (by kernel_rfl) ?_ _
  clear hHeld
  have hA2 : _ = _ := hA.out
  go_wp2_with fail
  refine (UR.out _ (KK.out.1)).mono ?_
  rintro e w5 ⟨rfl, hb5⟩
  have K5 : Hid (ES w w5) := KK.out.below hb5
  clear hb5 KK HO
  have K6 : Hid (ES w (w5.alloc (.cells #[.int .i64 uy, .int .i64 um, .int .i64 ua, .int .i64 ub, .int .i64 uc, .int .i64 ut, .int .u8 uz] 92))) := K5.out.below ((Below.refl _ _).alloc (Nat.le_refl _) _)
  clear K5
  go_wp2_with (refine wpList_store_mid rfl 94 _ _ rfl w.heap.size 0 #[.int .i64 0, .string ⟨#[]⟩, .int .i64 0, .string ⟨#[]⟩, .int .i64 0, .int .i64 0, .int .i64 0, .int .i64 0, .int .i64 0, .int .i64 0, .int .u8 0] rfl rfl K6.out.2.there (by kernel_rfl) zEra_one ?_; refine gen_list (fun V => Bx V w.heap.size zEra ∧ Below w.heap.size w V) ⟨K6.out.2.setAll zEra rfl, below_setCells (Nat.le_refl _) zEra _ 0 K6.out.1⟩ ?_; rintro w7 ⟨X4, B4⟩)
  have y0 := X4.c 0 rfl
  have y1 := X4.c 1 rfl
  have y2 := X4.c 2 rfl
  have y3 := X4.c 3 rfl
  have y4 := X4.c 4 rfl
  have y5 := X4.c 5 rfl
  have y6 := X4.c 6 rfl
  have y7 := X4.c 7 rfl
  have y8 := X4.c 8 rfl
  have y9 := X4.c 9 rfl
  have y10 := X4.c 10 rfl
  have HB : Hid (Below w.heap.size w w7) := B4
  clear X4 B4
  refine bodyPost_ret (v := .tuple #[.agg #[.int .i64 0, .string ⟨#[]⟩, .int .i64 0, .string ⟨#[]⟩, .int .i64 0, .int .i64 0, .int .i64 0, .int .i64 0, .int .i64 0, .int .i64 0, .int .u8 0], .bool false]) (by simp [results, Tryz.results77, go_sem, y0, y1, y2, y3, y4, y5, y6, y7, y8, y9, y10]) rfl ⟨rfl, HB.out⟩

set_option maxRecDepth 100000 in
set_option maxHeartbeats 8000000 in
theorem readEra_yes (f0 f1 f2 : ByteArray) (rl fm : ByteArray) (off sv uy um ua ub uc ut uz : Int) (rs : List Rdr) (hrs : Hid (rs = [⟨212, .agg #[.int .i64 (-50400), .int .i64 50400], 205, f0, 2, .int .i64 off, true⟩, ⟨178, .agg #[], 166, f1, 183, .agg #[.string rl, .int .i64 sv], true⟩, ⟨179, .agg #[], 167, f2, 9, .string fm, true⟩])) (HK : Hid (∀ r ∈ rs, r.ok)) 
    (k g o cp : Nat) (w : World) (hg : g < w.heap.size) (hcp : k + 3 ≤ cp) (HF : Hid (∀ j r, rs[j]? = some r → w.cell? ⟨g, o + j, none⟩ = some (.string r.f)))
    (A : Option Addr) (hA : Hid ((if cp = 3 then some ⟨g, o, none⟩ else some ⟨g, o + 3, none⟩) = A)) (UR : Hid (∀ W : World, Below w.heap.size w W → Calls Tryz.prog 111 #[.slice A k (cp - 3)] W fun e W' => e = .returned (.tuple #[.agg #[.int .i64 uy, .int .i64 um, .int .i64 ua, .int .i64 ub, .int .i64 uc, .int .i64 ut, .int .u8 uz], .bool true]) ∧ Below W.heap.size W W')) :
    Calls Tryz.prog 77 #[.slice (some ⟨g, o, none⟩) (k + 3) cp] w fun e w' => e = .returned (.tuple #[.agg #[.int .i64 off, .string rl, .int .i64 sv, .string fm, .int .i64 uy, .int .i64 um, .int .i64 ua, .int .i64 ub, .int .i64 uc, .int .i64 ut, .int .u8 uz], .bool true]) ∧ Below w.heap.size w w' := by
  have hlen : rs.length = 3 := by rw [hrs.out]; rfl
  have hL : Hid (rdL rs [] = some [.iface 2 (.int .i64 off), .iface 183 (.agg #[.string rl, .int .i64 sv]), .iface 9 (.string fm)]) := by show _ = _; rw [hrs.out]; rfl
  have E0 : Hid (ES w _) := ES.new w
  have hcp1 : 3 ≤ cp := by omega
  have hk3 : ¬ ((k + 3 : Nat) : Int) < 3 := by omega
  have hk4 : (3 : Int) ≤ (cp : Int) := by omega
  have hk5 : ((k + 3 : Nat) : Int) ≤ (cp : Int) := by omega
  go_enter Tryz.func77, Tryz.ntmps77
  go_upto_region 3 with fail
  refine gen_code (ES w) E0.out ?_
  clear E0
  intro w1 hE
  have KK : Hid (ES w w1) := hE
  clear hE
  go_wp2_with fail
  refine wp_region_held_drew (S := fun _ => True) (by kernel_rfl) trivial (fun hHeld => ?_)
  refine gen_any (ES w) KK.out.drew ?_
  clear hHeld KK
  intro v0 hE0
  have KK : Hid (ES w v0) := hE0
  clear hE0
  have hHeld : True := trivial
  refine wpAnyH_take (i := 0) (v := ?_) (oi := { dst := some 14, op := _, type := _, pos := _, after := _, guard := none }) rfl (by kernel_rfl) (by kernel_rfl) (by kernel_rfl) (fun _ _ _ h => h) (Or.inl ⟨by kernel_rfl, ?_⟩) (by assumption) ?_
  case refine_2 => (intro w9 hSw; clear hSw; go_simp; try with_reducible rfl)
  simp only [Act.put, List.setIfInBounds_toArray, List.set_cons_zero, List.set_cons_succ]
  refine wpAnyH_take (i := 1) (v := ?_) (oi := { dst := some 15, op := _, type := _, pos := _, after := _, guard := none }) rfl (by kernel_rfl) (by kernel_rfl) (by kernel_rfl) (fun _ _ _ h => h) (Or.inl ⟨by kernel_rfl, ?_⟩) (by assumption) ?_
  case refine_2 => (intro w9 hSw; clear hSw; go_simp; try with_reducible rfl)
  simp only [Act.put, List.setIfInBounds_toArray, List.set_cons_zero, List.set_cons_succ]
  refine wpAnyH_take (i := 3) (v := ?_) (oi := { dst := some 17, op := _, type := _, pos := _, after := _, guard := none }) rfl (by kernel_rfl) (by kernel_rfl) (by kernel_rfl) (fun _ _ _ h => h) (Or.inl ⟨by kernel_rfl, ?_⟩) (by assumption) ?_
  case refine_2 => (intro w9 hSw; clear hSw; go_simp; try with_reducible rfl)
  simp only [Act.put, List.setIfInBounds_toArray, List.set_cons_zero, List.set_cons_succ]
  refine wpAnyH_take (i := 4) (v := ?_) (oi := { dst := some 18, op := _, type := _, pos := _, after := _, guard := none }) rfl (by kernel_rfl) (by kernel_rfl) (by kernel_rfl) (fun _ _ _ h => h) (Or.inl ⟨by kernel_rfl, ?_⟩) (by assumption) ?_
  case refine_2 => (intro w9 hSw; clear hSw; go_simp; try with_reducible rfl)
  simp only [Act.put, List.setIfInBounds_toArray, List.set_cons_zero, List.set_cons_succ]
  refine wpAnyH_take (i := 5) (v := ?_) (oi := { dst := some 19, op := _, type := _, pos := _, after := _, guard := none }) rfl (by kernel_rfl) (by kernel_rfl) (by kernel_rfl) (fun _ _ _ h => h) (Or.inl ⟨by kernel_rfl, ?_⟩) (by assumption) ?_
  case refine_2 => (intro w9 hSw; clear hSw; go_simp; try with_reducible rfl)
  simp only [Act.put, List.setIfInBounds_toArray, List.set_cons_zero, List.set_cons_succ]
  refine wpAnyH_take (i := 6) (v := ?_) (oi := { dst := some 20, op := _, type := _, pos := _, after := _, guard := none }) rfl (by kernel_rfl) (by kernel_rfl) (by kernel_rfl) (fun _ _ _ h => h) (Or.inl ⟨by kernel_rfl, ?_⟩) (by assumption) ?_
  case refine_2 => (intro w9 hSw; clear hSw; go_simp; try with_reducible rfl)
  simp only [Act.put, List.setIfInBounds_toArray, List.set_cons_zero, List.set_cons_succ]
  refine wpAnyH_ready (rs := [2]) (by kernel_rfl) (by simp) (AllReadyH.cons (o := { dst := some 16, op := _, type := _, pos := _, after := _, guard := none }) rfl (fun K hK => ?_) AllReadyH.nil)
  go_simp
  refine (offsetR _).mono ?_
  rintro e v1 ⟨rfl, hb1⟩
  refine hK.out _ _ trivial (fun hHeld => ?_)
  replace KK : Hid (ES w v1) := KK.out.below hb1
  clear hK K hb1
  refine wpAnyH_ready (rs := [7]) (by kernel_rfl) (by simp) (AllReadyH.cons (o := { dst := some 21, op := _, type := _, pos := _, after := _, guard := none }) rfl (fun K hK => ?_) AllReadyH.nil)
  go_simp
  refine hK.out _ _ trivial (fun hHeld => ?_)
  obtain ⟨rb, hrb⟩ : ∃ rb, rb = v1.heap.size := ⟨_, rfl⟩
  refine gen_any (fun V' => ES w V' ∧ Bx V' rb [.iface 212 (.agg #[.int .i64 (-50400), .int .i64 50400]), .iface 178 (.agg #[]), .iface 179 (.agg #[])]) ⟨KK.out.below ((Below.refl _ _).alloc (Nat.le_refl _) _), by rw [hrb]; exact Bx.new _ [.iface 212 (.agg #[.int .i64 (-50400), .int .i64 50400]), .iface 178 (.agg #[]), .iface 179 (.agg #[])] _⟩ ?_
  have hrw : w.heap.size < rb := by rw [hrb]; exact KK.out.2.1
  rw [← hrb]
  clear hHeld KK hrb hK K
  rintro v2 ⟨kk, HR⟩
  have KK : Hid (ES w v2) := kk
  have HRB : Hid (Bx v2 rb _) := HR
  clear kk HR
  have hHeld : True := trivial
  refine wpAnyH_ready (rs := [8]) (by kernel_rfl) (by simp) (AllReadyH.cons (o := { dst := some 22, op := _, type := _, pos := _, after := _, guard := none }) rfl (fun K hK => ?_) AllReadyH.nil)
  go_simp
  refine (readAll_any rs 3 hlen g o rb 0 cp 3 _ HK (Nat.lt_of_lt_of_le hg KK.out.1.size) HRB.out.1 (by decide) (fun j r hj => (KK.out.1.cell hg).trans (HF.out j r hj)) (fun j r hj => ?_) (by omega) (Nat.le_refl _)).mono ?_
  · have e1 := hrs.out
    subst e1
    have := HRB.out.c j (v := .iface r.T r.v) (by have q := congrArg (Option.map (fun r : Rdr => Value.iface r.T r.v)) hj; rw [← List.getElem?_map] at q; exact q)
    rw [Nat.zero_add]
    exact this
  rintro e v3 ⟨hb3, hR⟩
  rw [hL.out] at hR
  obtain ⟨v, hv, hO⟩ := hR
  subst hv
  have HO : Hid (World.ownsRow v3 _ 20 1 v _ _) := hO
  clear hO
  refine hK.out _ _ trivial (fun hHeld => ?_)
  have hRv0 := HRB.out.1
  have hRv : rb < v3.heap.size := Nat.lt_of_lt_of_le HRB.out.1 hb3.size
  replace KK : Hid (ES w v3) := KK.out.below hb3
  clear hK K hb3 HRB
  refine wpAnyH_take (i := 9) (v := ?_) (oi := { dst := some 13, op := _, type := _, pos := _, after := _, guard := none }) rfl (by kernel_rfl) (by kernel_rfl) (by kernel_rfl) (fun _ _ _ h => h) (Or.inl ⟨by kernel_rfl, ?_⟩) (by assumption) ?_
  case refine_2 => (intro w9 hSw; clear hSw; go_simp; try with_reducible rfl)
  simp only [Act.put, List.setIfInBounds_toArray, List.set_cons_zero, List.set_cons_succ]
  refine wpAnyH_take (i := 10) (v := ?_) (oi := { dst := some 23, op := _, type := _, pos := _, after := _, guard := none }) rfl (by kernel_rfl) (by kernel_rfl) (by kernel_rfl) (fun _ _ _ h => h) (Or.inl ⟨by kernel_rfl, ?_⟩) (by assumption) ?_
  case refine_2 => (intro w9 hSw; clear hSw; go_simp; try with_reducible rfl)
  simp only [Act.put, List.setIfInBounds_toArray, List.set_cons_zero, List.set_cons_succ]
  refine wpAnyH_take (i := 11) (v := ?_) (oi := { dst := some 24, op := _, type := _, pos := _, after := _, guard := none }) rfl (by kernel_rfl) (by kernel_rfl) (by kernel_rfl) (fun _ _ _ h => h) (Or.inl ⟨by kernel_rfl, ?_⟩) (by assumption) ?_
  case refine_2 => (intro w9 hSw; clear hSw; go_simp; try with_reducible rfl)
  simp only [Act.put, List.setIfInBounds_toArray, List.set_cons_zero, List.set_cons_succ]
  refine wpAnyH_take (i := 12) (v := ?_) (oi := { dst := some 4, op := _, type := _, pos := _, after := _, guard := none }) rfl (by kernel_rfl) (by kernel_rfl) (by kernel_rfl) (fun _ _ _ h => h) (Or.inl ⟨by kernel_rfl, ?_⟩) (by assumption) ?_
  case refine_2 => (intro w9 hSw; clear hSw; go_simp; try with_reducible rfl)
  simp only [Act.put, List.setIfInBounds_toArray, List.set_cons_zero, List.set_cons_succ]
  refine wpAnyH_take (i := 13) (v := ?_) (oi := { dst := some 5, op := _, type := _, pos := _, after := _, guard := none }) rfl (by kernel_rfl) (by kernel_rfl) (by kernel_rfl) (fun _ _ _ h => h) (Or.inl ⟨by kernel_rfl, ?_⟩) (by assumption) ?_
  case refine_2 => (intro w9 hSw; clear hSw; go_simp; try with_reducible rfl)
  simp only [Act.put, List.setIfInBounds_toArray, List.set_cons_zero, List.set_cons_succ]
  refine wpAnyH_done (by kernel_rfl) ?_ _
  have hgw : ∀ r, v.ownBlock = some r → rb < r := fun r hr => by have := (HO.out.lt r hr).1; omega
  obtain ⟨gb, cb, rfl, hgb, hcs⟩ := row_of_own 3 HO.out rfl (by decide)
  have hne : gb ≠ w.heap.size := by have := hgw gb rfl; omega
  clear hHeld
  have hA2 : _ = _ := hA.out
  go_wp2_with fail
  refine (UR.out _ (KK.out.1)).mono ?_
  rintro e w5 ⟨rfl, hb5⟩
  have K5 : Hid (ES w w5) := KK.out.below hb5
  have hcs5 : ∀ j x, ([.iface 2 (.int .i64 off), .iface 183 (.agg #[.string rl, .int .i64 sv]), .iface 9 (.string fm)] : List Value)[j]? = some x → w5.cell? ⟨gb, j, none⟩ = some x := fun j x hj => (hb5.cell (p := ⟨gb, j, none⟩) hgb).trans (hcs j x hj)
  have hgb5 : gb < w5.heap.size := Nat.lt_of_lt_of_le hgb hb5.size
  have hww5 := K5.out.2.1
  have S4 : Hid (EH w gb (w5.heap.size + 1) w5.heap.size [.iface 2 (.int .i64 off), .iface 183 (.agg #[.string rl, .int .i64 sv]), .iface 9 (.string fm)] [.string rl, .int .i64 sv] [.int .i64 uy, .int .i64 um, .int .i64 ua, .int .i64 ub, .int .i64 uc, .int .i64 ut, .int .u8 uz] (((w5.alloc (.cells #[.int .i64 uy, .int .i64 um, .int .i64 ua, .int .i64 ub, .int .i64 uc, .int .i64 ut, .int .u8 uz] 92))).alloc (.cells #[.string rl, .int .i64 sv] 183))) := by
    have b7 : Below w5.heap.size w5 (((w5.alloc (.cells #[.int .i64 uy, .int .i64 um, .int .i64 ua, .int .i64 ub, .int .i64 uc, .int .i64 ut, .int .u8 uz] 92))).alloc (.cells #[.string rl, .int .i64 sv] 183)) := ((Below.refl _ _).alloc (Nat.le_refl _) _).alloc (by simp) _
    refine ⟨⟨K5.out.1.trans (b7.mono K5.out.1.size), fun j x hj => (b7.cell (p := ⟨gb, j, none⟩) hgb5).trans (hcs5 j x hj), _, rfl, K5.out.2.below b7⟩, Bx.newAt _ [.string rl, .int .i64 sv] _ _ (by simp), (Bx.new w5 [.int .i64 uy, .int .i64 um, .int .i64 ua, .int .i64 ub, .int .i64 uc, .int .i64 ut, .int .u8 uz] _).alloc _⟩
  have a1 := hcs5 1 _ rfl
  have s1 := ta_shift rl sv
  have s0 := ta_int off
  have s2 := ta_str fm
  clear hcs hcs5 HO KK K5 hb5 hgw HK HF hrs hlen UR
  go_upto_region 8 with fail
  refine gen_code (EH w gb (w5.heap.size + 1) w5.heap.size [.iface 2 (.int .i64 off), .iface 183 (.agg #[.string rl, .int .i64 sv]), .iface 9 (.string fm)] [.string rl, .int .i64 sv] [.int .i64 uy, .int .i64 um, .int .i64 ua, .int .i64 ub, .int .i64 uc, .int .i64 ut, .int .u8 uz]) S4.out ?_
  clear S4 a1
  intro w8 hS8
  have S4 : Hid (EH w gb (w5.heap.size + 1) w5.heap.size [.iface 2 (.int .i64 off), .iface 183 (.agg #[.string rl, .int .i64 sv]), .iface 9 (.string fm)] [.string rl, .int .i64 sv] [.int .i64 uy, .int .i64 um, .int .i64 ua, .int .i64 ub, .int .i64 uc, .int .i64 ut, .int .u8 uz] w8) := hS8
  clear hS8
  go_wp2_with fail
  refine wp_region_held_drew (S := EH w gb (w5.heap.size + 1) w5.heap.size [.iface 2 (.int .i64 off), .iface 183 (.agg #[.string rl, .int .i64 sv]), .iface 9 (.string fm)] [.string rl, .int .i64 sv] [.int .i64 uy, .int .i64 um, .int .i64 ua, .int .i64 ub, .int .i64 uc, .int .i64 ut, .int .u8 uz]) (by kernel_rfl) S4.out.drew (fun hHeld => ?_)
  refine gen_any (EH w gb (w5.heap.size + 1) w5.heap.size [.iface 2 (.int .i64 off), .iface 183 (.agg #[.string rl, .int .i64 sv]), .iface 9 (.string fm)] [.string rl, .int .i64 sv] [.int .i64 uy, .int .i64 um, .int .i64 ua, .int .i64 ub, .int .i64 uc, .int .i64 ut, .int .u8 uz]) hHeld ?_
  clear hHeld S4
  rintro w9 hHeld
  refine wpAnyH_take (i := 0) (v := ?_) (oi := { dst := some 42, op := _, type := _, pos := _, after := _, guard := none }) rfl (by kernel_rfl) (by kernel_rfl) (by kernel_rfl) (fun _ _ _ h => h) (Or.inl ⟨by kernel_rfl, ?_⟩) (by assumption) ?_
  case refine_2 => (intro w9 hSw; clear hSw; go_simp; try with_reducible rfl)
  simp only [Act.put, List.setIfInBounds_toArray, List.set_cons_zero, List.set_cons_succ]
  refine wpAnyH_take (i := 1) (v := ?_) (oi := { dst := some 43, op := _, type := _, pos := _, after := _, guard := none }) rfl (by kernel_rfl) (by kernel_rfl) (by kernel_rfl) (fun _ _ _ h => h) (Or.inl ⟨by kernel_rfl, ?_⟩) (by assumption) ?_
  case refine_2 => (intro w9 hSw; clear hSw; go_simp; try with_reducible rfl)
  simp only [Act.put, List.setIfInBounds_toArray, List.set_cons_zero, List.set_cons_succ]
  refine wpAnyH_take (i := 2) (v := ?_) (oi := { dst := some 44, op := _, type := _, pos := _, after := _, guard := none }) rfl (by kernel_rfl) (by kernel_rfl) (by kernel_rfl) (fun _ _ _ h => h) (Or.inl ⟨by kernel_rfl, ?_⟩) (by assumption) ?_
  case refine_2 => (intro w9 hSw; obtain ⟨⟨_, zx, _⟩, zc, zu⟩ := hSw; have q0 := zx 0 _ rfl; have q2 := zx 2 _ rfl; have c0 := zc.c 0 rfl; have c1 := zc.c 1 rfl; have u0 := zu.c 0 rfl; have u1 := zu.c 1 rfl; have u2 := zu.c 2 rfl; have u3 := zu.c 3 rfl; have u4 := zu.c 4 rfl; have u5 := zu.c 5 rfl; have u6 := zu.c 6 rfl; clear zx zc zu; go_simp; try with_reducible rfl)
  simp only [Act.put, List.setIfInBounds_toArray, List.set_cons_zero, List.set_cons_succ]
  refine wpAnyH_take (i := 3) (v := ?_) (oi := { dst := some 45, op := _, type := _, pos := _, after := _, guard := none }) rfl (by kernel_rfl) (by kernel_rfl) (by kernel_rfl) (fun _ _ _ h => h) (Or.inl ⟨by kernel_rfl, ?_⟩) (by assumption) ?_
  case refine_2 => (intro w9 hSw; clear hSw; go_simp; try with_reducible rfl)
  simp only [Act.put, List.setIfInBounds_toArray, List.set_cons_zero, List.set_cons_succ]
  refine wpAnyH_take (i := 4) (v := ?_) (oi := { dst := some 46, op := _, type := _, pos := _, after := _, guard := none }) rfl (by kernel_rfl) (by kernel_rfl) (by kernel_rfl) (fun _ _ _ h => h) (Or.inl ⟨by kernel_rfl, ?_⟩) (by assumption) ?_
  case refine_2 => (intro w9 hSw; clear hSw; go_simp; try with_reducible rfl)
  simp only [Act.put, List.setIfInBounds_toArray, List.set_cons_zero, List.set_cons_succ]
  refine wpAnyH_take (i := 5) (v := ?_) (oi := { dst := some 47, op := _, type := _, pos := _, after := _, guard := none }) rfl (by kernel_rfl) (by kernel_rfl) (by kernel_rfl) (fun _ _ _ h => h) (Or.inl ⟨by kernel_rfl, ?_⟩) (by assumption) ?_
  case refine_2 => (intro w9 hSw; obtain ⟨⟨_, zx, _⟩, zc, zu⟩ := hSw; have q0 := zx 0 _ rfl; have q2 := zx 2 _ rfl; have c0 := zc.c 0 rfl; have c1 := zc.c 1 rfl; have u0 := zu.c 0 rfl; have u1 := zu.c 1 rfl; have u2 := zu.c 2 rfl; have u3 := zu.c 3 rfl; have u4 := zu.c 4 rfl; have u5 := zu.c 5 rfl; have u6 := zu.c 6 rfl; clear zx zc zu; go_simp; try with_reducible rfl)
  simp only [Act.put, List.setIfInBounds_toArray, List.set_cons_zero, List.set_cons_succ]
  refine wpAnyH_take (i := 6) (v := ?_) (oi := { dst := some 48, op := _, type := _, pos := _, after := _, guard := none }) rfl (by kernel_rfl) (by kernel_rfl) (by kernel_rfl) (fun _ _ _ h => h) (Or.inl ⟨by kernel_rfl, ?_⟩) (by assumption) ?_
  case refine_2 => (intro w9 hSw; clear hSw; go_simp; try with_reducible rfl)
  simp only [Act.put, List.setIfInBounds_toArray, List.set_cons_zero, List.set_cons_succ]
  refine wpAnyH_take (i := 7) (v := ?_) (oi := { dst := some 49, op := _, type := _, pos := _, after := _, guard := none }) rfl (by kernel_rfl) (by kernel_rfl) (by kernel_rfl) (fun _ _ _ h => h) (Or.inl ⟨by kernel_rfl, ?_⟩) (by assumption) ?_
  case refine_2 => (intro w9 hSw; obtain ⟨⟨_, zx, _⟩, zc, zu⟩ := hSw; have q0 := zx 0 _ rfl; have q2 := zx 2 _ rfl; have c0 := zc.c 0 rfl; have c1 := zc.c 1 rfl; have u0 := zu.c 0 rfl; have u1 := zu.c 1 rfl; have u2 := zu.c 2 rfl; have u3 := zu.c 3 rfl; have u4 := zu.c 4 rfl; have u5 := zu.c 5 rfl; have u6 := zu.c 6 rfl; clear zx zc zu; go_simp; try with_reducible rfl)
  simp only [Act.put, List.setIfInBounds_toArray, List.set_cons_zero, List.set_cons_succ]
  refine wpAnyH_take (i := 8) (v := ?_) (oi := { dst := some 50, op := _, type := _, pos := _, after := _, guard := none }) rfl (by kernel_rfl) (by kernel_rfl) (by kernel_rfl) (fun _ _ _ h => h) (Or.inl ⟨by kernel_rfl, ?_⟩) (by assumption) ?_
  case refine_2 => (intro w9 hSw; clear hSw; go_simp; try with_reducible rfl)
  simp only [Act.put, List.setIfInBounds_toArray, List.set_cons_zero, List.set_cons_succ]
  refine wpAnyH_take (i := 9) (v := ?_) (oi := { dst := some 51, op := _, type := _, pos := _, after := _, guard := none }) rfl (by kernel_rfl) (by kernel_rfl) (by kernel_rfl) (fun _ _ _ h => h) (Or.inl ⟨by kernel_rfl, ?_⟩) (by assumption) ?_
  case refine_2 => (intro w9 hSw; clear hSw; go_simp; try with_reducible rfl)
  simp only [Act.put, List.setIfInBounds_toArray, List.set_cons_zero, List.set_cons_succ]
  refine wpAnyH_take (i := 10) (v := ?_) (oi := { dst := some 52, op := _, type := _, pos := _, after := _, guard := none }) rfl (by kernel_rfl) (by kernel_rfl) (by kernel_rfl) (fun _ _ _ h => h) (Or.inl ⟨by kernel_rfl, ?_⟩) (by assumption) ?_
  case refine_2 => (intro w9 hSw; obtain ⟨⟨_, zx, _⟩, zc, zu⟩ := hSw; have q0 := zx 0 _ rfl; have q2 := zx 2 _ rfl; have c0 := zc.c 0 rfl; have c1 := zc.c 1 rfl; have u0 := zu.c 0 rfl; have u1 := zu.c 1 rfl; have u2 := zu.c 2 rfl; have u3 := zu.c 3 rfl; have u4 := zu.c 4 rfl; have u5 := zu.c 5 rfl; have u6 := zu.c 6 rfl; clear zx zc zu; go_simp; try with_reducible rfl)
  simp only [Act.put, List.setIfInBounds_toArray, List.set_cons_zero, List.set_cons_succ]
  refine wpAnyH_take (i := 11) (v := ?_) (oi := { dst := some 53, op := _, type := _, pos := _, after := _, guard := none }) rfl (by kernel_rfl) (by kernel_rfl) (by kernel_rfl) (fun _ _ _ h => h) (Or.inl ⟨by kernel_rfl, ?_⟩) (by assumption) ?_
  case refine_2 => (intro w9 hSw; clear hSw; go_simp; try with_reducible rfl)
  simp only [Act.put, List.setIfInBounds_toArray, List.set_cons_zero, List.set_cons_succ]
  refine wpAnyH_take (i := 12) (v := ?_) (oi := { dst := some 54, op := _, type := _, pos := _, after := _, guard := none }) rfl (by kernel_rfl) (by kernel_rfl) (by kernel_rfl) (fun _ _ _ h => h) (Or.inl ⟨by kernel_rfl, ?_⟩) (by assumption) ?_
  case refine_2 => (intro w9 hSw; obtain ⟨⟨_, zx, _⟩, zc, zu⟩ := hSw; have q0 := zx 0 _ rfl; have q2 := zx 2 _ rfl; have c0 := zc.c 0 rfl; have c1 := zc.c 1 rfl; have u0 := zu.c 0 rfl; have u1 := zu.c 1 rfl; have u2 := zu.c 2 rfl; have u3 := zu.c 3 rfl; have u4 := zu.c 4 rfl; have u5 := zu.c 5 rfl; have u6 := zu.c 6 rfl; clear zx zc zu; go_simp; try with_reducible rfl)
  simp only [Act.put, List.setIfInBounds_toArray, List.set_cons_zero, List.set_cons_succ]
  refine wpAnyH_take (i := 13) (v := ?_) (oi := { dst := some 55, op := _, type := _, pos := _, after := _, guard := none }) rfl (by kernel_rfl) (by kernel_rfl) (by kernel_rfl) (fun _ _ _ h => h) (Or.inl ⟨by kernel_rfl, ?_⟩) (by assumption) ?_
  case refine_2 => (intro w9 hSw; clear hSw; go_simp; try with_reducible rfl)
  simp only [Act.put, List.setIfInBounds_toArray, List.set_cons_zero, List.set_cons_succ]
  refine wpAnyH_ready (rs := [14]) (by kernel_rfl) (by simp) (AllReadyH.cons (o := { dst := none, op := _, type := _, pos := _, after := _, guard := none }) rfl (fun K hK => ?_) AllReadyH.nil)
  obtain ⟨⟨hB5, hX5, l5, hl5, hZ5⟩, hC5, hU5⟩ := id hHeld
  have hT5 : w9.there w.heap.size 0 11 := by have := hZ5.there; rw [hl5] at this; exact this
  have P1 : Below w.heap.size w (w9.setCells w.heap.size 0 [.int .i64 off, .string rl, .int .i64 sv, .string fm, .int .i64 uy, .int .i64 um, .int .i64 ua, .int .i64 ub, .int .i64 uc, .int .i64 ut, .int .u8 uz]) := below_setCells (Nat.le_refl _) [.int .i64 off, .string rl, .int .i64 sv, .string fm, .int .i64 uy, .int .i64 um, .int .i64 ua, .int .i64 ub, .int .i64 uc, .int .i64 ut, .int .u8 uz] w9 0 hB5
  have P3 : Bx (w9.setCells w.heap.size 0 [.int .i64 off, .string rl, .int .i64 sv, .string fm, .int .i64 uy, .int .i64 um, .int .i64 ua, .int .i64 ub, .int .i64 uc, .int .i64 ut, .int .u8 uz]) w.heap.size [.int .i64 off, .string rl, .int .i64 sv, .string fm, .int .i64 uy, .int .i64 um, .int .i64 ua, .int .i64 ub, .int .i64 uc, .int .i64 ut, .int .u8 uz] := hZ5.setAll [.int .i64 off, .string rl, .int .i64 sv, .string fm, .int .i64 uy, .int .i64 um, .int .i64 ua, .int .i64 ub, .int .i64 uc, .int .i64 ut, .int .u8 uz] hl5
  have P4 : EH w gb (w5.heap.size + 1) w5.heap.size [.iface 2 (.int .i64 off), .iface 183 (.agg #[.string rl, .int .i64 sv]), .iface 9 (.string fm)] [.string rl, .int .i64 sv] [.int .i64 uy, .int .i64 um, .int .i64 ua, .int .i64 ub, .int .i64 uc, .int .i64 ut, .int .u8 uz] (w9.setCells w.heap.size 0 [.int .i64 off, .string rl, .int .i64 sv, .string fm, .int .i64 uy, .int .i64 um, .int .i64 ua, .int .i64 ub, .int .i64 uc, .int .i64 ut, .int .u8 uz]) := ⟨⟨P1, fun j x hj => (setCells_off _ _ _ _ _ hne).trans (hX5 j x hj), _, rfl, P3⟩, hC5.setOther (by omega) _, hU5.setOther (by omega) _⟩
  refine (if_pos (by kernel_rfl)).mpr (wp_store_mid 94 _ _ rfl w.heap.size 0 #[.int .i64 off, .string rl, .int .i64 sv, .string fm, .int .i64 uy, .int .i64 um, .int .i64 ua, .int .i64 ub, .int .i64 uc, .int .i64 ut, .int .u8 uz] rfl rfl hT5 (by kernel_rfl) (era_one rl fm off sv uy um ua ub uc ut uz) ?_)
  refine hK.out _ (w9.setCells w.heap.size 0 [.int .i64 off, .string rl, .int .i64 sv, .string fm, .int .i64 uy, .int .i64 um, .int .i64 ua, .int .i64 ub, .int .i64 uc, .int .i64 ut, .int .u8 uz]) P4 (fun _ => ?_)
  clear hK K
  refine gen_any (w1 := (w9.setCells w.heap.size 0 [.int .i64 off, .string rl, .int .i64 sv, .string fm, .int .i64 uy, .int .i64 um, .int .i64 ua, .int .i64 ub, .int .i64 uc, .int .i64 ut, .int .u8 uz])) (fun V => EH w gb (w5.heap.size + 1) w5.heap.size [.iface 2 (.int .i64 off), .iface 183 (.agg #[.string rl, .int .i64 sv]), .iface 9 (.string fm)] [.string rl, .int .i64 sv] [.int .i64 uy, .int .i64 um, .int .i64 ua, .int .i64 ub, .int .i64 uc, .int .i64 ut, .int .u8 uz] V ∧ Bx V w.heap.size [.int .i64 off, .string rl, .int .i64 sv, .string fm, .int .i64 uy, .int .i64 um, .int .i64 ua, .int .i64 ub, .int .i64 uc, .int .i64 ut, .int .u8 uz] ∧ Below w.heap.size w V) ⟨P4, P3, P1⟩ ?_
  clear hHeld hB5 hX5 hl5 hZ5 hT5 P1 P3 P4 hC5 hU5
  rintro w10 ⟨hHeld, X6, B6⟩
  refine wpAnyH_take (i := 15) (v := ?_) (oi := { dst := some 3, op := _, type := _, pos := _, after := _, guard := none }) rfl (by kernel_rfl) (by kernel_rfl) (by kernel_rfl) (fun _ _ _ h => h) (Or.inl ⟨by kernel_rfl, ?_⟩) (by assumption) ?_
  case refine_2 => (intro w9 hSw; clear hSw; go_simp; try with_reducible rfl)
  simp only [Act.put, List.setIfInBounds_toArray, List.set_cons_zero, List.set_cons_succ]
  refine wpAnyH_done (by kernel_rfl) ?_ _
  have y0 := X6.c 0 rfl
  have y1 := X6.c 1 rfl
  have y2 := X6.c 2 rfl
  have y3 := X6.c 3 rfl
  have y4 := X6.c 4 rfl
  have y5 := X6.c 5 rfl
  have y6 := X6.c 6 rfl
  have y7 := X6.c 7 rfl
  have y8 := X6.c 8 rfl
  have y9 := X6.c 9 rfl
  have y10 := X6.c 10 rfl
  have HB : Hid (Below w.heap.size w w10) := B6
  clear X6 B6 hHeld
  go_wp2_with fail
  refine bodyPost_ret (v := .tuple #[.agg #[.int .i64 off, .string rl, .int .i64 sv, .string fm, .int .i64 uy, .int .i64 um, .int .i64 ua, .int .i64 ub, .int .i64 uc, .int .i64 ut, .int .u8 uz], .bool true]) (by simp [results, Tryz.results77, go_sem, y0, y1, y2, y3, y4, y5, y6, y7, y8, y9, y10]) rfl ⟨rfl, HB.out⟩

end Go.Proofs.YtgnfkkcagbbhmaaGreatDoor
