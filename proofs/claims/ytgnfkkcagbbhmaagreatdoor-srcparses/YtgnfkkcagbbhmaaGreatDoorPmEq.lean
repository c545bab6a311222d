/- Contract: src's parser: takeLink, over what readLink answers. -/
import Derived.Test.YtgnfkkcagbbhmaaGreatDoorPmDq
namespace Go.Proofs.YtgnfkkcagbbhmaaGreatDoor
open Go.RowKit
open Sr (gen_any gen_list)
set_option linter.unusedVariables false

def linkZ : Value := .agg #[.string ByteArray.empty, .string ByteArray.empty]
theorem infoLinkP : (Tryz.prog.info? 95).map (fun i => (i.zero, i.size, i.bytes)) = some (some linkZ, 2, 32) := by kernel_rfl

set_option maxRecDepth 100000 in
set_option maxHeartbeats 1000000 in
theorem takeLink_no (n : Int) (fb fo k c : Nat) (r : ByteArray × ByteArray) (A : Option Addr) (hA : Hid ((if c = 1 then some (⟨fb, fo, none⟩ : Addr) else some ⟨fb, fo + 1, none⟩) = A)) (hkc : k + 1 ≤ c) (g : Nat) (V : World)
    (RR : Hid (∀ W : World, Below V.heap.size V W → Calls Tryz.prog 83 #[.slice A k (c - 1)] W fun e W' => e = .returned (.tuple #[.agg #[.string r.1, .string r.2], .bool false]) ∧ Below W.heap.size W W')) :
    Calls Tryz.prog 51 #[.pointer (some ⟨g, 0, none⟩), .agg #[.int .i64 n, .slice (some ⟨fb, fo, none⟩) (k + 1) c]] V fun e W' => e = .returned (.int .i64 21) ∧ Below V.heap.size V W' := by
  have h1 : (1 : Int) ≤ (k : Int) + 1 := by omega
  have h2 : (k : Int) + 1 ≤ (c : Int) := by omega
  have h3 : (1 : Int) ≤ (c : Int) := by omega
  have B1 : Hid (Below V.heap.size V (V.alloc (.cells #[.int .i64 n, .slice (some ⟨fb, fo, none⟩) (k + 1) c] 54))) := (Below.refl _ _).alloc (Nat.le_refl _) _
  have hA2 : _ = _ := hA.out
  go_enter Tryz.func51, Tryz.ntmps51
  go_wp2_with fail
  refine (RR.out _ B1.out).mono ?_
  rintro e W1 ⟨rfl, hb⟩
  go_wp2
  go_ret
  have q : Below V.heap.size V W1 := NBs hb
  exact ⟨rfl, q.alloc q.size _⟩

set_option maxRecDepth 100000 in
set_option maxHeartbeats 1000000 in
theorem takeLink_size (n : Int) (fb fo k c : Nat) (r : ByteArray × ByteArray) (A : Option Addr) (hA : Hid ((if c = 1 then some (⟨fb, fo, none⟩ : Addr) else some ⟨fb, fo + 1, none⟩) = A)) (hkc : k + 1 ≤ c) (w : World) (g m B : Nat) (S : PSt) (vr vl ve vz : Value) (vs : List Value) (V : World) (h : PM w g m B S vr vl ve vz vs V) (hz : S.links.length = 16)
    (RR : Hid (∀ W : World, Below V.heap.size V W → Calls Tryz.prog 83 #[.slice A k (c - 1)] W fun e W' => e = .returned (.tuple #[.agg #[.string r.1, .string r.2], .bool true]) ∧ Below W.heap.size W W')) :
    Calls Tryz.prog 51 #[.pointer (some ⟨g, 0, none⟩), .agg #[.int .i64 n, .slice (some ⟨fb, fo, none⟩) (k + 1) c]] V fun e W' => e = .returned (.int .i64 3) ∧ Below V.heap.size V W' := by
  have h1 : (1 : Int) ≤ (k : Int) + 1 := by omega
  have h2 : (k : Int) + 1 ≤ (c : Int) := by omega
  have h3 : (1 : Int) ≤ (c : Int) := by omega
  have B1 : Hid (Below V.heap.size V (V.alloc (.cells #[.int .i64 n, .slice (some ⟨fb, fo, none⟩) (k + 1) c] 54))) := (Below.refl _ _).alloc (Nat.le_refl _) _
  have hA2 : _ = _ := hA.out
  go_enter Tryz.func51, Tryz.ntmps51
  go_wp2_with fail
  refine (RR.out _ B1.out).mono ?_
  rintro e W1 ⟨rfl, hb⟩
  have hB1 : Hid (Below V.heap.size V W1) := NBs hb
  obtain ⟨rb, hrb⟩ : ∃ rb, rb = W1.heap.size := ⟨_, rfl⟩
  have hVrb : V.heap.size ≤ rb := by rw [hrb]; exact hB1.out.size
  have E0 : Hid (Below V.heap.size V (W1.alloc (.cells #[.string r.1, .string r.2] 95)) ∧ PM w g m B S vr vl ve vz vs (W1.alloc (.cells #[.string r.1, .string r.2] 95)) ∧ Bx (W1.alloc (.cells #[.string r.1, .string r.2] 95)) rb [.string r.1, .string r.2]) := ⟨hB1.out.alloc hB1.out.size _, h.below (hB1.out.alloc hB1.out.size _), by rw [hrb]; exact Bx.new W1 [.string r.1, .string r.2] _⟩
  clear hb hB1 B1 hA2 h1 h2 h3
  obtain ⟨al, cl, hvl, hl1, hl2, -⟩ := own_rowP (h.fam.get 1 rfl)
  simp only at hvl hl1
  subst hvl
  go_upto_region 4 with fail
  refine gen_code (fun W => (Below V.heap.size V W ∧ PM w g m B S vr (.slice al S.links.length cl) ve vz vs W ∧ Bx W rb [.string r.1, .string r.2])) E0.out ?_
  clear E0
  intro w1 hE
  have KK : Hid (Below V.heap.size V w1 ∧ PM w g m B S vr (.slice al S.links.length cl) ve vz vs w1 ∧ Bx w1 rb [.string r.1, .string r.2]) := hE
  clear hE
  rw [← hrb]
  clear hrb
  have c2 := KK.out.2.1.box.c 2 rfl
  have hz' : (S.links.length : Int) = 16 := by omega
  go_wp2_with fail
  go_ret
  exact ⟨rfl, KK.out.1⟩

set_option maxRecDepth 100000 in
set_option maxHeartbeats 1000000 in
theorem takeLink_name (n : Int) (fb fo k c : Nat) (r : ByteArray × ByteArray) (A : Option Addr) (hA : Hid ((if c = 1 then some (⟨fb, fo, none⟩ : Addr) else some ⟨fb, fo + 1, none⟩) = A)) (hkc : k + 1 ≤ c) (w : World) (g m B : Nat) (S : PSt) (vr vl ve vz : Value) (vs : List Value) (V : World) (h : PM w g m B S vr vl ve vz vs V) (hz : S.links.length ≠ 16) (hs : r.2.size ≤ maxLen) (hZ : Hid (∀ z ∈ S.zones, z.1.size ≤ maxLen)) (hL : Hid (∀ l ∈ S.links, l.2.size ≤ maxLen)) (ht : takenB S r.2 = true)
    (RR : Hid (∀ W : World, Below V.heap.size V W → Calls Tryz.prog 83 #[.slice A k (c - 1)] W fun e W' => e = .returned (.tuple #[.agg #[.string r.1, .string r.2], .bool true]) ∧ Below W.heap.size W W')) :
    Calls Tryz.prog 51 #[.pointer (some ⟨g, 0, none⟩), .agg #[.int .i64 n, .slice (some ⟨fb, fo, none⟩) (k + 1) c]] V fun e W' => e = .returned (.int .i64 23) ∧ Below V.heap.size V W' := by
  have h1 : (1 : Int) ≤ (k : Int) + 1 := by omega
  have h2 : (k : Int) + 1 ≤ (c : Int) := by omega
  have h3 : (1 : Int) ≤ (c : Int) := by omega
  have B1 : Hid (Below V.heap.size V (V.alloc (.cells #[.int .i64 n, .slice (some ⟨fb, fo, none⟩) (k + 1) c] 54))) := (Below.refl _ _).alloc (Nat.le_refl _) _
  have hA2 : _ = _ := hA.out
  go_enter Tryz.func51, Tryz.ntmps51
  go_wp2_with fail
  refine (RR.out _ B1.out).mono ?_
  rintro e W1 ⟨rfl, hb⟩
  have hB1 : Hid (Below V.heap.size V W1) := NBs hb
  obtain ⟨rb, hrb⟩ : ∃ rb, rb = W1.heap.size := ⟨_, rfl⟩
  have hVrb : V.heap.size ≤ rb := by rw [hrb]; exact hB1.out.size
  have E0 : Hid (Below V.heap.size V (W1.alloc (.cells #[.string r.1, .string r.2] 95)) ∧ PM w g m B S vr vl ve vz vs (W1.alloc (.cells #[.string r.1, .string r.2] 95)) ∧ Bx (W1.alloc (.cells #[.string r.1, .string r.2] 95)) rb [.string r.1, .string r.2]) := ⟨hB1.out.alloc hB1.out.size _, h.below (hB1.out.alloc hB1.out.size _), by rw [hrb]; exact Bx.new W1 [.string r.1, .string r.2] _⟩
  clear hb hB1 B1 hA2 h1 h2 h3
  obtain ⟨al, cl, hvl, hl1, hl2, -⟩ := own_rowP (h.fam.get 1 rfl)
  simp only at hvl hl1
  subst hvl
  go_upto_region 4 with fail
  refine gen_code (fun W => (Below V.heap.size V W ∧ PM w g m B S vr (.slice al S.links.length cl) ve vz vs W ∧ Bx W rb [.string r.1, .string r.2])) E0.out ?_
  clear E0
  intro w1 hE
  have KK : Hid (Below V.heap.size V w1 ∧ PM w g m B S vr (.slice al S.links.length cl) ve vz vs w1 ∧ Bx w1 rb [.string r.1, .string r.2]) := hE
  clear hE
  rw [← hrb]
  clear hrb
  have c2 := KK.out.2.1.box.c 2 rfl
  have hz' : ¬ (S.links.length : Int) = 16 := by omega
  go_upto_region 6 with fail
  clear c2
  have y1 := KK.out.2.2.c 1 rfl
  go_wp2_with fail
  refine (ptaken_any w g m B S vr _ ve vz vs _ KK.out.2.1 r.2 hs hZ hL).mono ?_
  rintro e w2 ⟨rfl, hb2⟩
  have K2 : Hid (Below V.heap.size V w2 ∧ PM w g m B S vr (.slice al S.links.length cl) ve vz vs w2 ∧ Bx w2 rb [.string r.1, .string r.2]) := ⟨KK.out.1.trans (hb2.mono KK.out.1.size), KK.out.2.1.below hb2, KK.out.2.2.below hb2⟩
  clear KK hb2 y1
  rw [ht]
  go_wp2_with fail
  go_ret
  exact ⟨rfl, K2.out.1⟩

set_option maxRecDepth 100000 in
set_option maxHeartbeats 1000000 in
theorem takeLink_yes (n : Int) (fb fo k c : Nat) (r : ByteArray × ByteArray) (A : Option Addr) (hA : Hid ((if c = 1 then some (⟨fb, fo, none⟩ : Addr) else some ⟨fb, fo + 1, none⟩) = A)) (hkc : k + 1 ≤ c) (w : World) (g m B : Nat) (S : PSt) (vr vl ve vz : Value) (vs : List Value) (V : World) (h : PM w g m B S vr vl ve vz vs V) (hz : S.links.length ≠ 16) (hN : S.links.length ≤ 100000) (hs : r.2.size ≤ maxLen) (hZ : Hid (∀ z ∈ S.zones, z.1.size ≤ maxLen)) (hL : Hid (∀ l ∈ S.links, l.2.size ≤ maxLen)) (ht : takenB S r.2 = false)
    (RR : Hid (∀ W : World, Below V.heap.size V W → Calls Tryz.prog 83 #[.slice A k (c - 1)] W fun e W' => e = .returned (.tuple #[.agg #[.string r.1, .string r.2], .bool true]) ∧ Below W.heap.size W W')) :
    Calls Tryz.prog 51 #[.pointer (some ⟨g, 0, none⟩), .agg #[.int .i64 n, .slice (some ⟨fb, fo, none⟩) (k + 1) c]] V fun e W' => e = .returned (.int .i64 0) ∧ ∃ v', PM w g m B { S with links := S.links ++ [r] } vr v' ve vz vs W' := by
  obtain ⟨i0, hi0, iz0, iz1, iz2⟩ := info_partsP infoLinkP
  have h1 : (1 : Int) ≤ (k : Int) + 1 := by omega
  have h2 : (k : Int) + 1 ≤ (c : Int) := by omega
  have h3 : (1 : Int) ≤ (c : Int) := by omega
  have B1 : Hid (Below V.heap.size V (V.alloc (.cells #[.int .i64 n, .slice (some ⟨fb, fo, none⟩) (k + 1) c] 54))) := (Below.refl _ _).alloc (Nat.le_refl _) _
  have hA2 : _ = _ := hA.out
  go_enter Tryz.func51, Tryz.ntmps51
  go_wp2_with fail
  refine (RR.out _ B1.out).mono ?_
  rintro e W1 ⟨rfl, hb⟩
  have hB1 : Hid (Below V.heap.size V W1) := NBs hb
  obtain ⟨rb, hrb⟩ : ∃ rb, rb = W1.heap.size := ⟨_, rfl⟩
  have hVrb : V.heap.size ≤ rb := by rw [hrb]; exact hB1.out.size
  have E0 : Hid (Below V.heap.size V (W1.alloc (.cells #[.string r.1, .string r.2] 95)) ∧ PM w g m B S vr vl ve vz vs (W1.alloc (.cells #[.string r.1, .string r.2] 95)) ∧ Bx (W1.alloc (.cells #[.string r.1, .string r.2] 95)) rb [.string r.1, .string r.2]) := ⟨hB1.out.alloc hB1.out.size _, h.below (hB1.out.alloc hB1.out.size _), by rw [hrb]; exact Bx.new W1 [.string r.1, .string r.2] _⟩
  clear hb hB1 B1 hA2 h1 h2 h3
  obtain ⟨al, cl, hvl, hl1, hl2, -⟩ := own_rowP (h.fam.get 1 rfl)
  simp only at hvl hl1
  subst hvl
  go_upto_region 4 with fail
  refine gen_code (fun W => (Below V.heap.size V W ∧ PM w g m B S vr (.slice al S.links.length cl) ve vz vs W ∧ Bx W rb [.string r.1, .string r.2])) E0.out ?_
  clear E0
  intro w1 hE
  have KK : Hid (Below V.heap.size V w1 ∧ PM w g m B S vr (.slice al S.links.length cl) ve vz vs w1 ∧ Bx w1 rb [.string r.1, .string r.2]) := hE
  clear hE
  rw [← hrb]
  clear hrb
  have c2 := KK.out.2.1.box.c 2 rfl
  have hz' : ¬ (S.links.length : Int) = 16 := by omega
  go_upto_region 6 with fail
  clear c2
  have y1 := KK.out.2.2.c 1 rfl
  go_wp2_with fail
  refine (ptaken_any w g m B S vr _ ve vz vs _ KK.out.2.1 r.2 hs hZ hL).mono ?_
  rintro e w2 ⟨rfl, hb2⟩
  have K2 : Hid (Below V.heap.size V w2 ∧ PM w g m B S vr (.slice al S.links.length cl) ve vz vs w2 ∧ Bx w2 rb [.string r.1, .string r.2]) := ⟨KK.out.1.trans (hb2.mono KK.out.1.size), KK.out.2.1.below hb2, KK.out.2.2.below hb2⟩
  clear KK hb2 y1
  rw [ht]
  go_wp2_with fail
  refine wp_region_held_drew (S := fun W => Bx W rb [.string r.1, .string r.2]) (by kernel_rfl) K2.out.2.2 (fun hHeld => ?_)
  refine gen_any (fun V' => (PM w g m B S vr (.slice al S.links.length cl) ve vz vs V' ∧ Bx V' rb [.string r.1, .string r.2])) ⟨K2.out.2.1.drew, K2.out.2.2⟩ ?_
  clear hHeld K2
  intro y0 kk
  have KK : Hid (PM w g m B S vr (.slice al S.links.length cl) ve vz vs y0 ∧ Bx y0 rb [.string r.1, .string r.2]) := kk
  clear kk
  have hHeld : Bx y0 rb [.string r.1, .string r.2] := KK.out.2
  refine wpAnyH_take (i := 0) (v := ?_) (oi := { dst := some 27, op := _, type := _, pos := _, after := _, guard := none }) rfl (by kernel_rfl) (by kernel_rfl) (by kernel_rfl) (fun _ _ _ h => h) (Or.inl ⟨by kernel_rfl, ?_⟩) (by assumption) ?_
  case refine_2 => (intro w9 hSw; clear hSw; go_simp; try with_reducible rfl)
  simp only [Act.put, List.setIfInBounds_toArray, List.set_cons_zero, List.set_cons_succ]
  refine wpAnyH_take (i := 1) (v := ?_) (oi := { dst := some 28, op := _, type := _, pos := _, after := _, guard := none }) rfl (by kernel_rfl) (by kernel_rfl) (by kernel_rfl) (fun _ _ _ h => h) (Or.inl ⟨by kernel_rfl, ?_⟩) (by assumption) ?_
  case refine_2 => (intro w9 hSw; clear hSw; go_simp; try with_reducible rfl)
  simp only [Act.put, List.setIfInBounds_toArray, List.set_cons_zero, List.set_cons_succ]
  refine wpAnyH_take (i := 2) (v := ?_) (oi := { dst := some 29, op := _, type := _, pos := _, after := _, guard := none }) rfl (by kernel_rfl) (by kernel_rfl) (by kernel_rfl) (fun _ _ _ h => h) (Or.inl ⟨by kernel_rfl, ?_⟩) (by assumption) ?_
  case refine_2 => (intro w9 hSw; clear hSw; go_simp; try with_reducible rfl)
  simp only [Act.put, List.setIfInBounds_toArray, List.set_cons_zero, List.set_cons_succ]
  refine wpAnyH_take (i := 3) (v := ?_) (oi := { dst := some 30, op := _, type := _, pos := _, after := _, guard := none }) rfl (by kernel_rfl) (by kernel_rfl) (by kernel_rfl) (fun _ _ _ h => h) (Or.inl ⟨by kernel_rfl, ?_⟩) (by assumption) ?_
  case refine_2 => (intro w9 hSw; clear hSw; go_simp; try with_reducible rfl)
  simp only [Act.put, List.setIfInBounds_toArray, List.set_cons_zero, List.set_cons_succ]
  refine wpAnyH_take (i := 4) (v := ?_) (oi := { dst := some 31, op := _, type := _, pos := _, after := _, guard := none }) rfl (by kernel_rfl) (by kernel_rfl) (by kernel_rfl) (fun _ _ _ h => h) (Or.inl ⟨by kernel_rfl, ?_⟩) (by assumption) ?_
  case refine_2 => (intro w9 hSw; clear hSw; go_simp; try with_reducible rfl)
  simp only [Act.put, List.setIfInBounds_toArray, List.set_cons_zero, List.set_cons_succ]
  refine wpAnyH_take (i := 6) (v := ?_) (oi := { dst := some 33, op := _, type := _, pos := _, after := _, guard := none }) rfl (by kernel_rfl) (by kernel_rfl) (by kernel_rfl) (fun _ _ _ h => h) (Or.inl ⟨by kernel_rfl, ?_⟩) (by assumption) ?_
  case refine_2 => (intro w9 hSw; have q0 := hSw.c 0 rfl; have q1 := hSw.c 1 rfl; clear hSw; go_simp; try with_reducible rfl)
  simp only [Act.put, List.setIfInBounds_toArray, List.set_cons_zero, List.set_cons_succ]
  refine wpAnyH_ready (rs := [5, 7]) (by kernel_rfl) (by simp) (AllReadyH.cons (o := { dst := some 32, op := _, type := _, pos := _, after := _, guard := none }) rfl (fun K hK => ?_) (AllReadyH.cons (o := { dst := some 34, op := _, type := _, pos := _, after := _, guard := none }) rfl (fun K hK => ?_) AllReadyH.nil))
  ·
    have q0 := KK.out.1.box.c 2 rfl
    go_simp
    refine hK.out _ _ hHeld (fun hHeld => ?_)
    clear hK K q0
    refine wpAnyH_ready (rs := [7]) (by kernel_rfl) (by simp) (AllReadyH.cons (o := { dst := some 34, op := _, type := _, pos := _, after := _, guard := none }) rfl (fun K hK => ?_) AllReadyH.nil)
    go_simp
    refine hK.out _ _ (hHeld.alloc _) (fun hHeld => ?_)
    obtain ⟨BR, hBR⟩ : ∃ BR, BR = y0.heap.size := ⟨_, rfl⟩
    have KN : Hid (PM w g m B S vr (.slice al S.links.length cl) ve vz vs (y0.alloc (.cells #[.string r.1, .string r.2] 95)) ∧ Bx (y0.alloc (.cells #[.string r.1, .string r.2] 95)) BR [.string r.1, .string r.2] ∧ Bx (y0.alloc (.cells #[.string r.1, .string r.2] 95)) rb [.string r.1, .string r.2]) := ⟨KK.out.1.below ((Below.refl _ _).alloc (Nat.le_refl _) _), by rw [hBR]; exact Bx.new y0 [.string r.1, .string r.2] _, KK.out.2.alloc _⟩
    refine gen_any (fun V' => (PM w g m B S vr (.slice al S.links.length cl) ve vz vs V' ∧ Bx V' BR [.string r.1, .string r.2] ∧ Bx V' rb [.string r.1, .string r.2])) KN.out ?_
    rw [← hBR]
    clear hHeld hK K KN hBR KK
    intro v2 kk
    have KK : Hid (PM w g m B S vr (.slice al S.links.length cl) ve vz vs v2 ∧ Bx v2 BR [.string r.1, .string r.2]) := ⟨kk.1, kk.2.1⟩
    have hHeld : Bx v2 rb [.string r.1, .string r.2] := kk.2.2
    clear kk
    refine wpAnyH_ready (rs := [8]) (by kernel_rfl) (by simp) (AllReadyH.cons (o := { dst := some 35, op := _, type := _, pos := _, after := _, guard := none }) rfl (fun K hK => ?_) AllReadyH.nil)
    have HOw : Hid (v2.ownsRow B 95 2 (.slice al S.links.length cl) S.links.length (linkXs S.links)) := KK.out.1.fam.get 1 rfl
    refine (if_pos (by kernel_rfl)).mpr (wp_append_newP _ _ 24 rfl B 95 i0 linkZ 2 32 Tryz.underlying24 hi0 iz0 iz1 iz2 rfl (by decide) (.slice al S.links.length cl) S.links.length (linkXs S.links) rfl HOw.out ⟨BR, 0, none⟩ 1 [.string r.1, .string r.2] rfl rfl (fun j u hj => by rw [show (⟨BR, 0, none⟩ : Addr).add j = ⟨BR, j, none⟩ from by rw [Addr.add_lit]; simp]; exact (KK.out.2.2 j u hj).1) (by intro u hu; simp at hu; rcases hu with rfl | rfl <;> rfl) (by unfold maxLen; omega) (by omega) KK.out.1.BV ?_)
    intro v' w4 hown' hgrow hnew
    obtain ⟨sq', sn', sc', hv'⟩ := own_sliceP hown'
    subst hv'
    have HQ : Hid ((PM w g m B { S with links := S.links ++ [r] } vr (.slice sq' sn' sc') ve vz vs (w4.setCell ⟨g, 2, none⟩ (.slice sq' sn' sc'))) ∧ Bx (w4.setCell ⟨g, 2, none⟩ (.slice sq' sn' sc')) rb [.string r.1, .string r.2] ∧ Bx w4 rb [.string r.1, .string r.2]) := by
      have q2 : Bx w4 rb [.string r.1, .string r.2] := bx_growP hHeld hgrow (fun e => by have := (own_ltP (h.fam.get 1 rfl) e).2; omega)
      exact ⟨KK.out.1.linked r hgrow hnew hown', q2.set9 (by have := h.lt; omega) _, q2⟩
    have HBX : Hid (Bx w4 g _) := KK.out.1.grownBox hgrow (fun c e => (own_ltP HOw.out e).1)
    refine hK.out _ _ HQ.out.2.2 (fun hHeld => ?_)
    clear hK K hown' hgrow hnew HOw KK
    refine wpAnyH_take (i := 9) (v := ?_) (oi := { dst := some 36, op := _, type := _, pos := _, after := _, guard := none }) rfl (by kernel_rfl) (by kernel_rfl) (by kernel_rfl) (fun _ _ _ h => h) (Or.inl ⟨by kernel_rfl, ?_⟩) (by assumption) ?_
    case refine_2 => (intro w9 hSw; clear hSw; go_simp; try with_reducible rfl)
    simp only [Act.put, List.setIfInBounds_toArray, List.set_cons_zero, List.set_cons_succ]
    refine wpAnyH_take (i := 10) (v := ?_) (oi := { dst := some 37, op := _, type := _, pos := _, after := _, guard := none }) rfl (by kernel_rfl) (by kernel_rfl) (by kernel_rfl) (fun _ _ _ h => h) (Or.inl ⟨by kernel_rfl, ?_⟩) (by assumption) ?_
    case refine_2 => (intro w9 hSw; clear hSw; go_simp; try with_reducible rfl)
    simp only [Act.put, List.setIfInBounds_toArray, List.set_cons_zero, List.set_cons_succ]
    refine wpAnyH_take (i := 11) (v := ?_) (oi := { dst := some 38, op := _, type := _, pos := _, after := _, guard := none }) rfl (by kernel_rfl) (by kernel_rfl) (by kernel_rfl) (fun _ _ _ h => h) (Or.inl ⟨by kernel_rfl, ?_⟩) (by assumption) ?_
    case refine_2 => (intro w9 hSw; clear hSw; go_simp; try with_reducible rfl)
    simp only [Act.put, List.setIfInBounds_toArray, List.set_cons_zero, List.set_cons_succ]
    refine wpAnyH_ready (rs := [12]) (by kernel_rfl) (by simp) (AllReadyH.cons (o := { dst := none, op := _, type := _, pos := _, after := _, guard := none }) rfl (fun K hK => ?_) AllReadyH.nil)
    have c2 := HBX.out.c 2 rfl
    have z2 := HBX.out.f 2 rfl
    have h4 := HBX.out.1
    go_simp
    refine hK.out _ _ HQ.out.2.1 (fun hHeld => ?_)
    refine gen_any (fun V' => PM w g m B { S with links := S.links ++ [r] } vr (.slice sq' sn' sc') ve vz vs V') HQ.out.1 ?_
    clear hHeld hK K HQ HBX c2 z2 h4
    intro v4 kk
    have KK : Hid (PM w g m B { S with links := S.links ++ [r] } vr (.slice sq' sn' sc') ve vz vs v4) := kk
    clear kk
    refine wpAnyH_done (by kernel_rfl) ?_ _
    go_wp2_with fail
    go_ret
    exact ⟨rfl, _, KK.out⟩
  ·
    go_simp
    refine hK.out _ _ (hHeld.alloc _) (fun hHeld => ?_)
    obtain ⟨BR, hBR⟩ : ∃ BR, BR = y0.heap.size := ⟨_, rfl⟩
    have KN : Hid (PM w g m B S vr (.slice al S.links.length cl) ve vz vs (y0.alloc (.cells #[.string r.1, .string r.2] 95)) ∧ Bx (y0.alloc (.cells #[.string r.1, .string r.2] 95)) BR [.string r.1, .string r.2] ∧ Bx (y0.alloc (.cells #[.string r.1, .string r.2] 95)) rb [.string r.1, .string r.2]) := ⟨KK.out.1.below ((Below.refl _ _).alloc (Nat.le_refl _) _), by rw [hBR]; exact Bx.new y0 [.string r.1, .string r.2] _, KK.out.2.alloc _⟩
    refine gen_any (fun V' => (PM w g m B S vr (.slice al S.links.length cl) ve vz vs V' ∧ Bx V' BR [.string r.1, .string r.2] ∧ Bx V' rb [.string r.1, .string r.2])) KN.out ?_
    rw [← hBR]
    clear hHeld hK K KN hBR KK
    intro v5 kk
    have KK : Hid (PM w g m B S vr (.slice al S.links.length cl) ve vz vs v5 ∧ Bx v5 BR [.string r.1, .string r.2]) := ⟨kk.1, kk.2.1⟩
    have hHeld : Bx v5 rb [.string r.1, .string r.2] := kk.2.2
    clear kk
    refine wpAnyH_ready (rs := [5]) (by kernel_rfl) (by simp) (AllReadyH.cons (o := { dst := some 32, op := _, type := _, pos := _, after := _, guard := none }) rfl (fun K hK => ?_) AllReadyH.nil)
    have q0 := KK.out.1.box.c 2 rfl
    go_simp
    refine hK.out _ _ hHeld (fun hHeld => ?_)
    clear hK K q0
    refine wpAnyH_ready (rs := [8]) (by kernel_rfl) (by simp) (AllReadyH.cons (o := { dst := some 35, op := _, type := _, pos := _, after := _, guard := none }) rfl (fun K hK => ?_) AllReadyH.nil)
    have HOw : Hid (v5.ownsRow B 95 2 (.slice al S.links.length cl) S.links.length (linkXs S.links)) := KK.out.1.fam.get 1 rfl
    refine (if_pos (by kernel_rfl)).mpr (wp_append_newP _ _ 24 rfl B 95 i0 linkZ 2 32 Tryz.underlying24 hi0 iz0 iz1 iz2 rfl (by decide) (.slice al S.links.length cl) S.links.length (linkXs S.links) rfl HOw.out ⟨BR, 0, none⟩ 1 [.string r.1, .string r.2] rfl rfl (fun j u hj => by rw [show (⟨BR, 0, none⟩ : Addr).add j = ⟨BR, j, none⟩ from by rw [Addr.add_lit]; simp]; exact (KK.out.2.2 j u hj).1) (by intro u hu; simp at hu; rcases hu with rfl | rfl <;> rfl) (by unfold maxLen; omega) (by omega) KK.out.1.BV ?_)
    intro v' w4 hown' hgrow hnew
    obtain ⟨sq', sn', sc', hv'⟩ := own_sliceP hown'
    subst hv'
    have HQ : Hid ((PM w g m B { S with links := S.links ++ [r] } vr (.slice sq' sn' sc') ve vz vs (w4.setCell ⟨g, 2, none⟩ (.slice sq' sn' sc'))) ∧ Bx (w4.setCell ⟨g, 2, none⟩ (.slice sq' sn' sc')) rb [.string r.1, .string r.2] ∧ Bx w4 rb [.string r.1, .string r.2]) := by
      have q2 : Bx w4 rb [.string r.1, .string r.2] := bx_growP hHeld hgrow (fun e => by have := (own_ltP (h.fam.get 1 rfl) e).2; omega)
      exact ⟨KK.out.1.linked r hgrow hnew hown', q2.set9 (by have := h.lt; omega) _, q2⟩
    have HBX : Hid (Bx w4 g _) := KK.out.1.grownBox hgrow (fun c e => (own_ltP HOw.out e).1)
    refine hK.out _ _ HQ.out.2.2 (fun hHeld => ?_)
    clear hK K hown' hgrow hnew HOw KK
    refine wpAnyH_take (i := 9) (v := ?_) (oi := { dst := some 36, op := _, type := _, pos := _, after := _, guard := none }) rfl (by kernel_rfl) (by kernel_rfl) (by kernel_rfl) (fun _ _ _ h => h) (Or.inl ⟨by kernel_rfl, ?_⟩) (by assumption) ?_
    case refine_2 => (intro w9 hSw; clear hSw; go_simp; try with_reducible rfl)
    simp only [Act.put, List.setIfInBounds_toArray, List.set_cons_zero, List.set_cons_succ]
    refine wpAnyH_take (i := 10) (v := ?_) (oi := { dst := some 37, op := _, type := _, pos := _, after := _, guard := none }) rfl (by kernel_rfl) (by kernel_rfl) (by kernel_rfl) (fun _ _ _ h => h) (Or.inl ⟨by kernel_rfl, ?_⟩) (by assumption) ?_
    case refine_2 => (intro w9 hSw; clear hSw; go_simp; try with_reducible rfl)
    simp only [Act.put, List.setIfInBounds_toArray, List.set_cons_zero, List.set_cons_succ]
    refine wpAnyH_take (i := 11) (v := ?_) (oi := { dst := some 38, op := _, type := _, pos := _, after := _, guard := none }) rfl (by kernel_rfl) (by kernel_rfl) (by kernel_rfl) (fun _ _ _ h => h) (Or.inl ⟨by kernel_rfl, ?_⟩) (by assumption) ?_
    case refine_2 => (intro w9 hSw; clear hSw; go_simp; try with_reducible rfl)
    simp only [Act.put, List.setIfInBounds_toArray, List.set_cons_zero, List.set_cons_succ]
    refine wpAnyH_ready (rs := [12]) (by kernel_rfl) (by simp) (AllReadyH.cons (o := { dst := none, op := _, type := _, pos := _, after := _, guard := none }) rfl (fun K hK => ?_) AllReadyH.nil)
    have c2 := HBX.out.c 2 rfl
    have z2 := HBX.out.f 2 rfl
    have h4 := HBX.out.1
    go_simp
    refine hK.out _ _ HQ.out.2.1 (fun hHeld => ?_)
    refine gen_any (fun V' => PM w g m B { S with links := S.links ++ [r] } vr (.slice sq' sn' sc') ve vz vs V') HQ.out.1 ?_
    clear hHeld hK K HQ HBX c2 z2 h4
    intro v8 kk
    have KK : Hid (PM w g m B { S with links := S.links ++ [r] } vr (.slice sq' sn' sc') ve vz vs v8) := kk
    clear kk
    refine wpAnyH_done (by kernel_rfl) ?_ _
    go_wp2_with fail
    go_ret
    exact ⟨rfl, _, KK.out⟩

end Go.Proofs.YtgnfkkcagbbhmaaGreatDoor
