/- Contracts: the closures of blob.writer: a number, a byte, a flag, a text as bytes. -/
import Derived.Test.YtdonjdihffpghaaDoorBlC
import Derived.Deep.RegionHeld3
namespace Go.Proofs.YtdonjdihffpghaaDoor
open Go.RowKit Sr
set_option linter.unusedVariables false

/-- a number as one that is not below nought. -/
def u64N (n : Int) : Nat := (n % 18446744073709551616).toNat
theorem u64N_wrap (n : Int) : IntKind.u64.wrap n = (u64N n : Int) := by rw [IntKind.wrap_u64]; unfold u64N; omega
theorem u64N_lt (n : Int) : u64N n < 18446744073709551616 := by unfold u64N; omega
theorem one_rdB {W : World} {b : Nat} {B : UInt8} {X : Int} (h : Bx W b [.int .u8 X]) (hB : (B.toNat : Int) = X) : ∀ j x, [B][j]? = some x → W.cell? ((⟨b, 0, none⟩ : Addr).add j) = some (.int .u8 (x.toNat : Int)) := fun j x hj => by
  cases j with
  | zero => simp at hj; subst hj; rw [hB]; simpa [Addr.add] using h.c 0 rfl
  | succ j => simp at hj
theorem conv_str (s : ByteArray) (w : World) : ∃ c w', (convert 9 22 (.string s)).run Tryd.prog w = .ok (.slice (some ⟨w.heap.size, 0, none⟩) s.size c) w' ∧ Below w.heap.size w w' ∧
    ∀ j x, s.data.toList[j]? = some x → w'.cell? ((⟨w.heap.size, 0, none⟩ : Addr).add j) = some (.int .u8 (x.toNat : Int)) := by
  refine ⟨_, _, run_bytes_of_string w 9 22 5 s Tryd.underlying9 Tryd.underlying22 Tryd.underlying5, ?_, ?_⟩
  · exact (Below.drew (Below.refl _ w)).alloc (Nat.le_refl _) _
  · intro j x hj
    have hj1 : s.data[j]? = some x := by simpa using hj
    obtain ⟨hlt, hx⟩ := Array.getElem?_eq_some_iff.1 hj1
    have hb := bytesRow_at s (grownCap w s.size 0 5) j hlt
    rw [hx] at hb
    have ha : ((⟨w.heap.size, 0, none⟩ : Addr).add j) = ⟨w.heap.size, j, none⟩ := by cases j <;> simp [Addr.add]
    rw [ha]
    simp only [World.cell?]
    rw [show (w.drew.alloc (.cells (bytesRow s (grownCap w s.size 0 5)) 5 ((bytesRow s (grownCap w s.size 0 5)).size, (bytesRow s (grownCap w s.size 0 5)).size + 1))).heap[w.heap.size]? = some (.cells (bytesRow s (grownCap w s.size 0 5)) 5 ((bytesRow s (grownCap w s.size 0 5)).size, (bytesRow s (grownCap w s.size 0 5)).size + 1)) from World.alloc_heap_new w.drew _]
    exact hb
theorem rd_bx {W : World} {b : Nat} {L : List UInt8} (h : Bx W b (cellsB L)) : ∀ j x, L[j]? = some x → W.cell? ((⟨b, 0, none⟩ : Addr).add j) = some (.int .u8 (x.toNat : Int)) := fun j x hj => by
  have := h.c j (cellsB_get hj); cases j <;> simpa [Addr.add] using this

set_option maxRecDepth 100000 in
set_option maxHeartbeats 4000000 in
theorem wnum_any (w0 : World) (bb base pb : Nat) (W : World) (L : List UInt8) (HS : Hid (WS w0 bb base W L)) (hlen : L.length ≤ 900000) (hL : 0 < L.length) (p : Addr) (N : Int) (hp : CT W bb p (.int .i64 N)) (hpb : CT W bb ⟨pb, 0, none⟩ (putF bb)) :
    Calls Tryd.prog 34 #[.pointer (some p), .pointer (some ⟨pb, 0, none⟩)] W fun e W' => (∃ v, e = .returned v) ∧ WS w0 bb base W' (L ++ beB 8 (u64N N)) ∧ KT bb W W' := by
  have HC : Hid (CT W bb p (.int .i64 N)) := hp
  have HP : Hid (CT W bb ⟨pb, 0, none⟩ (putF bb)) := hpb
  clear hp hpb
  obtain ⟨M, hM⟩ : ∃ M, u64N N = M := ⟨_, rfl⟩
  have hMw := u64N_wrap N
  have hM2 := u64N_lt N
  rw [hM] at hMw hM2 ⊢
  have HH : Hid (∀ w : World, Calls Tryd.prog 35 #[.int .u64 (M : Int), .int .i64 8] w fun e w' => e = .returned (.slice (some ⟨w.heap.size, 0, none⟩) 8 8) ∧ Below w.heap.size w w' ∧ Bx w' w.heap.size (cellsB (beB 8 M))) := highest_8 M hM2
  go_enter Tryd.func34, Tryd.ntmps34
  go_wp2_with fail
  have HS0 : Hid (WS w0 bb base W.drew L) := HS.out.mv (below_drew1 _)
  have HC0 : Hid (CT W.drew bb p (.int .i64 N)) := HC.out.mv (below_drew1 _)
  have HP0 : Hid (CT W.drew bb ⟨pb, 0, none⟩ (putF bb)) := HP.out.mv (below_drew1 _)
  have HK0 : Hid (KT bb W W.drew) := KT.of_below (below_drew1 _)
  refine wp_region_held_drew (S := WC w0 bb base pb p (.int .i64 N)) (by kernel_rfl) ⟨L, HS.out.mv (below_drew1 _), HC.out.mv (below_drew1 _), HP.out.mv (below_drew1 _)⟩ (fun hHeld => ?_)
  refine wpAnyH_take (i := 0) (v := ?_) (oi := { dst := some 3, op := _, type := _, pos := _, after := _, guard := none }) rfl (by kernel_rfl) (by kernel_rfl) (by kernel_rfl) (fun _ _ _ h => h) (Or.inl ⟨by kernel_rfl, ?_⟩) (by assumption) ?_
  case refine_2 => (intro w9 hSw; obtain ⟨_, _, z2, z3⟩ := hSw; have q2 := z2.1; have q3 := z3.1; clear z2 z3; go_simp; try with_reducible rfl)
  simp only [Act.put, List.setIfInBounds_toArray, List.set_cons_zero, List.set_cons_succ]
  refine wpAnyH_take (i := 1) (v := ?_) (oi := { dst := some 4, op := _, type := _, pos := _, after := _, guard := none }) rfl (by kernel_rfl) (by kernel_rfl) (by kernel_rfl) (fun _ _ _ h => h) (Or.inl ⟨by kernel_rfl, ?_⟩) (by assumption) ?_
  case refine_2 => (intro w9 hSw; clear hSw; go_simp; try with_reducible rfl)
  simp only [Act.put, List.setIfInBounds_toArray, List.set_cons_zero, List.set_cons_succ]
  refine wpAnyH_take (i := 2) (v := ?_) (oi := { dst := some 5, op := _, type := _, pos := _, after := _, guard := none }) rfl (by kernel_rfl) (by kernel_rfl) (by kernel_rfl) (fun _ _ _ h => h) (Or.inl ⟨by kernel_rfl, ?_⟩) (by assumption) ?_
  case refine_2 => (intro w9 hSw; clear hSw; go_simp; try with_reducible rfl)
  simp only [Act.put, List.setIfInBounds_toArray, List.set_cons_zero, List.set_cons_succ]
  refine wpAnyH_take (i := 3) (v := ?_) (oi := { dst := some 6, op := _, type := _, pos := _, after := _, guard := none }) rfl (by kernel_rfl) (by kernel_rfl) (by kernel_rfl) (fun _ _ _ h => h) (Or.inl ⟨by kernel_rfl, ?_⟩) (by assumption) ?_
  case refine_2 => (intro w9 hSw; obtain ⟨_, _, z2, z3⟩ := hSw; have q2 := z2.1; have q3 := z3.1; clear z2 z3; go_simp; try with_reducible rfl)
  simp only [Act.put, List.setIfInBounds_toArray, List.set_cons_zero, List.set_cons_succ]
  refine wpAnyH_take (i := 4) (v := ?_) (oi := { dst := some 7, op := _, type := _, pos := _, after := _, guard := none }) rfl (by kernel_rfl) (by kernel_rfl) (by kernel_rfl) (fun _ _ _ h => h) (Or.inl ⟨by kernel_rfl, ?_⟩) (by assumption) ?_
  case refine_2 => (intro w9 hSw; clear hSw; go_simp; try with_reducible rfl)
  simp only [Act.put, List.setIfInBounds_toArray, List.set_cons_zero, List.set_cons_succ]
  refine wpAnyH_ready (rs := [5]) (by kernel_rfl) (by simp) (AllReadyH.cons (o := { dst := some 8, op := _, type := _, pos := _, after := _, guard := none }) rfl (fun K hK => ?_) AllReadyH.nil)
  go_simp
  refine (HH.out _).mono ?_
  rintro e v1 ⟨rfl, hb1, hx1⟩
  have HS1 : Hid (WS w0 bb base v1 L) := HS0.out.mv hb1
  have HC1 : Hid (CT v1 bb p (.int .i64 N)) := HC0.out.mv hb1
  have HP1 : Hid (CT v1 bb ⟨pb, 0, none⟩ (putF bb)) := HP0.out.mv hb1
  have HK1 : Hid (KT bb W v1) := HK0.out.trans (KT.of_below hb1)
  refine hK.out _ _ (hHeld.below hb1) (fun hHeld => ?_)
  clear hK K hb1 HS0 HC0 HP0 HK0
  refine wpAnyH_ready (rs := [6]) (by kernel_rfl) (by simp) (AllReadyH.cons (o := { dst := some 9, op := _, type := _, pos := _, after := _, guard := none }) rfl (fun K hK => ?_) AllReadyH.nil)
  go_simp
  refine (put1_any w0 bb base _ L (beB 8 M) HS1 ⟨_, 0, none⟩ 8 8 (beB_len _ _) (.inl (by decide)) (by omega) hL (rd_bx hx1)).mono ?_
  rintro e v2 ⟨⟨r2, rfl⟩, hw2, hk2, ho2⟩
  have HWF : Hid (WS w0 bb base v2 (L ++ beB 8 M)) := hw2
  have HKF : Hid (KT bb W v2) := HK1.out.trans hk2
  refine hK.out _ _ ⟨_, hw2, HC1.out.kt hk2, HP1.out.kt hk2⟩ (fun hHeld => ?_)
  clear hK K hHeld hw2 hk2
  refine wpAnyH_done (by kernel_rfl) ?_ _
  go_wp2_with fail
  exact bodyPost_end (v := .tuple #[]) (by simp [results, Tryd.results34, go_sem]) rfl ⟨⟨_, rfl⟩, HWF.out, HKF.out⟩

set_option maxRecDepth 100000 in
set_option maxHeartbeats 4000000 in
theorem woct_any (w0 : World) (bb base pb : Nat) (W : World) (L : List UInt8) (HS : Hid (WS w0 bb base W L)) (hlen : L.length ≤ 900000) (hL : 0 < L.length) (p : Addr) (X : Int) (B : UInt8) (hB : (B.toNat : Int) = X) (hp : CT W bb p (.int .u8 X)) (hpb : CT W bb ⟨pb, 0, none⟩ (putF bb)) :
    Calls Tryd.prog 36 #[.pointer (some p), .pointer (some ⟨pb, 0, none⟩)] W fun e W' => (∃ v, e = .returned v) ∧ WS w0 bb base W' (L ++ [B]) ∧ KT bb W W' := by
  have HC : Hid (CT W bb p (.int .u8 X)) := hp
  have HP : Hid (CT W bb ⟨pb, 0, none⟩ (putF bb)) := hpb
  clear hp hpb
  have HB : Hid ((B.toNat : Int) = X) := hB
  clear hB
  go_enter Tryd.func36, Tryd.ntmps36
  go_wp2_with fail
  have HS0 : Hid (WS w0 bb base W.drew L) := HS.out.mv (below_drew1 _)
  have HC0 : Hid (CT W.drew bb p (.int .u8 X)) := HC.out.mv (below_drew1 _)
  have HP0 : Hid (CT W.drew bb ⟨pb, 0, none⟩ (putF bb)) := HP.out.mv (below_drew1 _)
  have HK0 : Hid (KT bb W W.drew) := KT.of_below (below_drew1 _)
  refine wp_region_held_drew (S := WC w0 bb base pb p (.int .u8 X)) (by kernel_rfl) ⟨L, HS.out.mv (below_drew1 _), HC.out.mv (below_drew1 _), HP.out.mv (below_drew1 _)⟩ (fun hHeld => ?_)
  obtain ⟨W0, hW0⟩ : ∃ W0, W.drew = W0 := ⟨_, rfl⟩
  rw [hW0] at HS0 HC0 HP0 HK0 hHeld ⊢
  clear hW0
  refine wpAnyH_take (i := 0) (v := ?_) (oi := { dst := some 3, op := _, type := _, pos := _, after := _, guard := none }) rfl (by kernel_rfl) (by kernel_rfl) (by kernel_rfl) (fun _ _ _ h => h) (Or.inl ⟨by kernel_rfl, ?_⟩) (by assumption) ?_
  case refine_2 => (intro w9 hSw; obtain ⟨_, _, z2, z3⟩ := hSw; have q2 := z2.1; have q3 := z3.1; clear z2 z3; go_simp; try with_reducible rfl)
  simp only [Act.put, List.setIfInBounds_toArray, List.set_cons_zero, List.set_cons_succ]
  refine wpAnyH_take (i := 1) (v := ?_) (oi := { dst := some 4, op := _, type := _, pos := _, after := _, guard := none }) rfl (by kernel_rfl) (by kernel_rfl) (by kernel_rfl) (fun _ _ _ h => h) (Or.inl ⟨by kernel_rfl, ?_⟩) (by assumption) ?_
  case refine_2 => (intro w9 hSw; clear hSw; go_simp; try with_reducible rfl)
  simp only [Act.put, List.setIfInBounds_toArray, List.set_cons_zero, List.set_cons_succ]
  refine wpAnyH_take (i := 2) (v := ?_) (oi := { dst := some 5, op := _, type := _, pos := _, after := _, guard := none }) rfl (by kernel_rfl) (by kernel_rfl) (by kernel_rfl) (fun _ _ _ h => h) (Or.inl ⟨by kernel_rfl, ?_⟩) (by assumption) ?_
  case refine_2 => (intro w9 hSw; clear hSw; go_simp; try with_reducible rfl)
  simp only [Act.put, List.setIfInBounds_toArray, List.set_cons_zero, List.set_cons_succ]
  refine wpAnyH_take (i := 3) (v := ?_) (oi := { dst := some 6, op := _, type := _, pos := _, after := _, guard := none }) rfl (by kernel_rfl) (by kernel_rfl) (by kernel_rfl) (fun _ _ _ h => h) (Or.inl ⟨by kernel_rfl, ?_⟩) (by assumption) ?_
  case refine_2 => (intro w9 hSw; obtain ⟨_, _, z2, z3⟩ := hSw; have q2 := z2.1; have q3 := z3.1; clear z2 z3; go_simp; try with_reducible rfl)
  simp only [Act.put, List.setIfInBounds_toArray, List.set_cons_zero, List.set_cons_succ]
  refine wpAnyH_ready (rs := [4]) (by kernel_rfl) (by simp) (AllReadyH.cons (o := { dst := some 7, op := _, type := _, pos := _, after := _, guard := none }) rfl (fun K hK => ?_) AllReadyH.nil)
  go_simp
  have hb1 := (Below.refl _ W0).alloc (Nat.le_refl _) (.cells #[.int .u8 X] 5)
  have HS1 : Hid (WS w0 bb base _ L) := HS0.out.mv hb1
  have HC1 : Hid (CT _ bb p (.int .u8 X)) := HC0.out.mv hb1
  have HP1 : Hid (CT _ bb ⟨pb, 0, none⟩ (putF bb)) := HP0.out.mv hb1
  have HK1 : Hid (KT bb W _) := HK0.out.trans (KT.of_below hb1)
  have hx1 : Bx (W0.alloc (.cells #[.int .u8 X] 5)) W0.heap.size [.int .u8 X] := Bx.new W0 [.int .u8 X] 5
  refine hK.out _ _ (hHeld.below hb1) (fun hHeld => ?_)
  clear hK K hb1 HS0 HC0 HP0 HK0
  refine wpAnyH_ready (rs := [5]) (by kernel_rfl) (by simp) (AllReadyH.cons (o := { dst := some 8, op := _, type := _, pos := _, after := _, guard := none }) rfl (fun K hK => ?_) AllReadyH.nil)
  go_simp
  refine (put1_any w0 bb base _ L [B] HS1 ⟨_, 0, none⟩ 1 _ (rfl) (.inl (by decide)) (by omega) hL (one_rdB hx1 HB.out)).mono ?_
  rintro e v2 ⟨⟨r2, rfl⟩, hw2, hk2, ho2⟩
  have HWF : Hid (WS w0 bb base v2 (L ++ [B])) := hw2
  have HKF : Hid (KT bb W v2) := HK1.out.trans hk2
  refine hK.out _ _ ⟨_, hw2, HC1.out.kt hk2, HP1.out.kt hk2⟩ (fun hHeld => ?_)
  clear hK K hHeld hw2 hk2
  refine wpAnyH_done (by kernel_rfl) ?_ _
  go_wp2_with fail
  exact bodyPost_end (v := .tuple #[]) (by simp [results, Tryd.results36, go_sem]) rfl ⟨⟨_, rfl⟩, HWF.out, HKF.out⟩

set_option maxRecDepth 100000 in
set_option maxHeartbeats 4000000 in
theorem wflag_true (w0 : World) (bb base pb : Nat) (W : World) (L : List UInt8) (HS : Hid (WS w0 bb base W L)) (hlen : L.length ≤ 900000) (hL : 0 < L.length) (p : Addr) (hp : CT W bb p (.bool true)) (hpb : CT W bb ⟨pb, 0, none⟩ (putF bb)) :
    Calls Tryd.prog 37 #[.pointer (some p), .pointer (some ⟨pb, 0, none⟩)] W fun e W' => (∃ v, e = .returned v) ∧ WS w0 bb base W' (L ++ [1]) ∧ KT bb W W' := by
  have hc1 := hp.1
  have hc2 := hpb.1
  go_enter Tryd.func37, Tryd.ntmps37
  go_wp2_with fail
  have hb1 := (Below.refl _ W).alloc (Nat.le_refl _) (.cells #[.int .u8 1] 5)
  refine (put1_any w0 bb base _ L [1] (HS.out.mv hb1) ⟨_, 0, none⟩ 1 _ rfl (.inl (by decide)) (by omega) hL (one_rdB (Bx.new W [.int .u8 1] 5) rfl)).mono ?_
  rintro e v1 ⟨⟨r1, rfl⟩, hw1, hk1, _⟩
  have HWF : Hid (WS w0 bb base v1 (L ++ [1])) := hw1
  have HKF : Hid (KT bb W v1) := (KT.of_below hb1).trans hk1
  clear hw1 hk1 hb1
  go_wp2_with fail
  exact bodyPost_end (v := .tuple #[]) (by simp [results, Tryd.results37, go_sem]) rfl ⟨⟨_, rfl⟩, HWF.out, HKF.out⟩

set_option maxRecDepth 100000 in
set_option maxHeartbeats 4000000 in
theorem wflag_false (w0 : World) (bb base pb : Nat) (W : World) (L : List UInt8) (HS : Hid (WS w0 bb base W L)) (hlen : L.length ≤ 900000) (hL : 0 < L.length) (p : Addr) (hp : CT W bb p (.bool false)) (hpb : CT W bb ⟨pb, 0, none⟩ (putF bb)) :
    Calls Tryd.prog 37 #[.pointer (some p), .pointer (some ⟨pb, 0, none⟩)] W fun e W' => (∃ v, e = .returned v) ∧ WS w0 bb base W' (L ++ [0]) ∧ KT bb W W' := by
  have hc1 := hp.1
  have hc2 := hpb.1
  go_enter Tryd.func37, Tryd.ntmps37
  go_wp2_with fail
  have hb1 := (Below.refl _ W).alloc (Nat.le_refl _) (.cells #[.int .u8 0] 5)
  refine (put1_any w0 bb base _ L [0] (HS.out.mv hb1) ⟨_, 0, none⟩ 1 _ rfl (.inl (by decide)) (by omega) hL (one_rdB (Bx.new W [.int .u8 0] 5) rfl)).mono ?_
  rintro e v1 ⟨⟨r1, rfl⟩, hw1, hk1, _⟩
  have HWF : Hid (WS w0 bb base v1 (L ++ [0])) := hw1
  have HKF : Hid (KT bb W v1) := (KT.of_below hb1).trans hk1
  clear hw1 hk1 hb1
  go_wp2_with fail
  exact bodyPost_end (v := .tuple #[]) (by simp [results, Tryd.results37, go_sem]) rfl ⟨⟨_, rfl⟩, HWF.out, HKF.out⟩

set_option maxRecDepth 100000 in
set_option maxHeartbeats 4000000 in
theorem wtext_any (w0 : World) (bb base pb : Nat) (W : World) (L : List UInt8) (HS : Hid (WS w0 bb base W L)) (hlen : L.length ≤ 900000) (hL : 0 < L.length) (p : Addr) (s : ByteArray) (hs : L.length + s.size ≤ 900000) (hp : CT W bb p (.string s)) (hpb : CT W bb ⟨pb, 0, none⟩ (putF bb)) :
    Calls Tryd.prog 38 #[.pointer (some p), .pointer (some ⟨pb, 0, none⟩)] W fun e W' => (∃ v, e = .returned v) ∧ WS w0 bb base W' (L ++ (UInt8.ofNat s.size :: s.data.toList)) ∧ KT bb W W' := by
  have HC : Hid (CT W bb p (.string s)) := hp
  have HP : Hid (CT W bb ⟨pb, 0, none⟩ (putF bb)) := hpb
  clear hp hpb
  have HZ : Hid (((UInt8.ofNat s.size).toNat : Int) = IntKind.u8.wrap (s.size : Int)) := by show _ = _; rw [IntKind.wrap_u8, u8_of]; omega
  go_enter Tryd.func38, Tryd.ntmps38
  go_wp2_with fail
  have HS0 : Hid (WS w0 bb base W.drew L) := HS.out.mv (below_drew1 _)
  have HC0 : Hid (CT W.drew bb p (.string s)) := HC.out.mv (below_drew1 _)
  have HP0 : Hid (CT W.drew bb ⟨pb, 0, none⟩ (putF bb)) := HP.out.mv (below_drew1 _)
  have HK0 : Hid (KT bb W W.drew) := KT.of_below (below_drew1 _)
  refine wp_region_held_drew (S := WC w0 bb base pb p (.string s)) (by kernel_rfl) ⟨L, HS.out.mv (below_drew1 _), HC.out.mv (below_drew1 _), HP.out.mv (below_drew1 _)⟩ (fun hHeld => ?_)
  obtain ⟨W0, hW0⟩ : ∃ W0, W.drew = W0 := ⟨_, rfl⟩
  rw [hW0] at HS0 HC0 HP0 HK0 hHeld ⊢
  clear hW0
  refine wpAnyH_take (i := 0) (v := ?_) (oi := { dst := some 3, op := _, type := _, pos := _, after := _, guard := none }) rfl (by kernel_rfl) (by kernel_rfl) (by kernel_rfl) (fun _ _ _ h => h) (Or.inl ⟨by kernel_rfl, ?_⟩) (by assumption) ?_
  case refine_2 => (intro w9 hSw; obtain ⟨_, _, z2, z3⟩ := hSw; have q2 := z2.1; have q3 := z3.1; clear z2 z3; go_simp; try with_reducible rfl)
  simp only [Act.put, List.setIfInBounds_toArray, List.set_cons_zero, List.set_cons_succ]
  refine wpAnyH_take (i := 1) (v := ?_) (oi := { dst := some 4, op := _, type := _, pos := _, after := _, guard := none }) rfl (by kernel_rfl) (by kernel_rfl) (by kernel_rfl) (fun _ _ _ h => h) (Or.inl ⟨by kernel_rfl, ?_⟩) (by assumption) ?_
  case refine_2 => (intro w9 hSw; clear hSw; go_simp; try with_reducible rfl)
  simp only [Act.put, List.setIfInBounds_toArray, List.set_cons_zero, List.set_cons_succ]
  refine wpAnyH_take (i := 2) (v := ?_) (oi := { dst := some 5, op := _, type := _, pos := _, after := _, guard := none }) rfl (by kernel_rfl) (by kernel_rfl) (by kernel_rfl) (fun _ _ _ h => h) (Or.inl ⟨by kernel_rfl, ?_⟩) (by assumption) ?_
  case refine_2 => (intro w9 hSw; clear hSw; go_simp; try with_reducible rfl)
  simp only [Act.put, List.setIfInBounds_toArray, List.set_cons_zero, List.set_cons_succ]
  refine wpAnyH_take (i := 3) (v := ?_) (oi := { dst := some 6, op := _, type := _, pos := _, after := _, guard := none }) rfl (by kernel_rfl) (by kernel_rfl) (by kernel_rfl) (fun _ _ _ h => h) (Or.inl ⟨by kernel_rfl, ?_⟩) (by assumption) ?_
  case refine_2 => (intro w9 hSw; obtain ⟨_, _, z2, z3⟩ := hSw; have q2 := z2.1; have q3 := z3.1; clear z2 z3; go_simp; try with_reducible rfl)
  simp only [Act.put, List.setIfInBounds_toArray, List.set_cons_zero, List.set_cons_succ]
  refine wpAnyH_take (i := 4) (v := ?_) (oi := { dst := some 7, op := _, type := _, pos := _, after := _, guard := none }) rfl (by kernel_rfl) (by kernel_rfl) (by kernel_rfl) (fun _ _ _ h => h) (Or.inl ⟨by kernel_rfl, ?_⟩) (by assumption) ?_
  case refine_2 => (intro w9 hSw; clear hSw; go_simp; try with_reducible rfl)
  simp only [Act.put, List.setIfInBounds_toArray, List.set_cons_zero, List.set_cons_succ]
  refine wpAnyH_take (i := 5) (v := ?_) (oi := { dst := some 8, op := _, type := _, pos := _, after := _, guard := none }) rfl (by kernel_rfl) (by kernel_rfl) (by kernel_rfl) (fun _ _ _ h => h) (Or.inl ⟨by kernel_rfl, ?_⟩) (by assumption) ?_
  case refine_2 => (intro w9 hSw; clear hSw; go_simp; try with_reducible rfl)
  simp only [Act.put, List.setIfInBounds_toArray, List.set_cons_zero, List.set_cons_succ]
  refine wpAnyH_ready (rs := [6]) (by kernel_rfl) (by simp) (AllReadyH.cons (o := { dst := some 9, op := _, type := _, pos := _, after := _, guard := none }) rfl (fun K hK => ?_) AllReadyH.nil)
  go_simp
  have hb1 := (Below.refl _ W0).alloc (Nat.le_refl _) (.cells #[.int .u8 (IntKind.u8.wrap (s.size : Int))] 5)
  have HS1 : Hid (WS w0 bb base _ L) := HS0.out.mv hb1
  have HC1 : Hid (CT _ bb p (.string s)) := HC0.out.mv hb1
  have HP1 : Hid (CT _ bb ⟨pb, 0, none⟩ (putF bb)) := HP0.out.mv hb1
  have HK1 : Hid (KT bb W _) := HK0.out.trans (KT.of_below hb1)
  have hx1 : Bx (W0.alloc (.cells #[.int .u8 (IntKind.u8.wrap (s.size : Int))] 5)) W0.heap.size [.int .u8 (IntKind.u8.wrap (s.size : Int))] := Bx.new W0 [.int .u8 (IntKind.u8.wrap (s.size : Int))] 5
  refine hK.out _ _ (hHeld.below hb1) (fun hHeld => ?_)
  clear hK K hb1 HS0 HC0 HP0 HK0
  refine wpAnyH_ready (rs := [7]) (by kernel_rfl) (by simp) (AllReadyH.cons (o := { dst := some 10, op := _, type := _, pos := _, after := _, guard := none }) rfl (fun K hK => ?_) AllReadyH.nil)
  go_simp
  refine (put1_any w0 bb base _ L [UInt8.ofNat s.size] HS1 ⟨_, 0, none⟩ 1 _ (rfl) (.inl (by decide)) (by omega) hL (one_rdB hx1 HZ.out)).mono ?_
  rintro e v2 ⟨⟨r2, rfl⟩, hw2, hk2, ho2⟩
  have HS2 : Hid (WS w0 bb base v2 (L ++ [UInt8.ofNat s.size])) := hw2
  have HK2 : Hid (KT bb W v2) := HK1.out.trans hk2
  refine hK.out _ _ ⟨_, hw2, HC1.out.kt hk2, HP1.out.kt hk2⟩ (fun hHeld => ?_)
  have HO2 : Hid (Own1 bb base v2 (L ++ [UInt8.ofNat s.size])) := ho2
  have HC2 : Hid (CT v2 bb p (.string s)) := HC1.out.kt hk2
  have HP2 : Hid (CT v2 bb ⟨pb, 0, none⟩ (putF bb)) := HP1.out.kt hk2
  clear hK K hHeld hw2 hk2 HS1 HC1 HP1 HK1 hx1
  refine wpAnyH_done (by kernel_rfl) ?_ _
  go_wp2_with fail
  refine wp_region_held_drew (S := WC w0 bb base pb p (.string s)) (by kernel_rfl) ⟨_, HS2.out.mv (below_drew1 _), HC2.out.mv (below_drew1 _), HP2.out.mv (below_drew1 _)⟩ (fun hHeld => ?_)
  have HS3 : Hid (WS w0 bb base v2.drew (L ++ [UInt8.ofNat s.size])) := HS2.out.mv (below_drew1 _)
  have HC3 : Hid (CT v2.drew bb p (.string s)) := HC2.out.mv (below_drew1 _)
  have HP3 : Hid (CT v2.drew bb ⟨pb, 0, none⟩ (putF bb)) := HP2.out.mv (below_drew1 _)
  have HK3 : Hid (KT bb W v2.drew) := HK2.out.trans (KT.of_below (below_drew1 _))
  have HO3 : Hid (Own1 bb base v2.drew (L ++ [UInt8.ofNat s.size])) := HO2.out.mv (below_drew1 _)
  obtain ⟨W3, hW3⟩ : ∃ W3, v2.drew = W3 := ⟨_, rfl⟩
  rw [hW3] at HS3 HC3 HP3 HK3 HO3 hHeld ⊢
  clear hW3 HS2 HC2 HP2 HK2
  refine wpAnyH_take (i := 0) (v := ?_) (oi := { dst := some 11, op := _, type := _, pos := _, after := _, guard := none }) rfl (by kernel_rfl) (by kernel_rfl) (by kernel_rfl) (fun _ _ _ h => h) (Or.inl ⟨by kernel_rfl, ?_⟩) (by assumption) ?_
  case refine_2 => (intro w9 hSw; obtain ⟨_, _, z2, z3⟩ := hSw; have q2 := z2.1; have q3 := z3.1; clear z2 z3; go_simp; try with_reducible rfl)
  simp only [Act.put, List.setIfInBounds_toArray, List.set_cons_zero, List.set_cons_succ]
  refine wpAnyH_take (i := 1) (v := ?_) (oi := { dst := some 12, op := _, type := _, pos := _, after := _, guard := none }) rfl (by kernel_rfl) (by kernel_rfl) (by kernel_rfl) (fun _ _ _ h => h) (Or.inl ⟨by kernel_rfl, ?_⟩) (by assumption) ?_
  case refine_2 => (intro w9 hSw; clear hSw; go_simp; try with_reducible rfl)
  simp only [Act.put, List.setIfInBounds_toArray, List.set_cons_zero, List.set_cons_succ]
  refine wpAnyH_take (i := 2) (v := ?_) (oi := { dst := some 13, op := _, type := _, pos := _, after := _, guard := none }) rfl (by kernel_rfl) (by kernel_rfl) (by kernel_rfl) (fun _ _ _ h => h) (Or.inl ⟨by kernel_rfl, ?_⟩) (by assumption) ?_
  case refine_2 => (intro w9 hSw; clear hSw; go_simp; try with_reducible rfl)
  simp only [Act.put, List.setIfInBounds_toArray, List.set_cons_zero, List.set_cons_succ]
  refine wpAnyH_take (i := 3) (v := ?_) (oi := { dst := some 14, op := _, type := _, pos := _, after := _, guard := none }) rfl (by kernel_rfl) (by kernel_rfl) (by kernel_rfl) (fun _ _ _ h => h) (Or.inl ⟨by kernel_rfl, ?_⟩) (by assumption) ?_
  case refine_2 => (intro w9 hSw; obtain ⟨_, _, z2, z3⟩ := hSw; have q2 := z2.1; have q3 := z3.1; clear z2 z3; go_simp; try with_reducible rfl)
  simp only [Act.put, List.setIfInBounds_toArray, List.set_cons_zero, List.set_cons_succ]
  refine wpAnyH_ready (rs := [4]) (by kernel_rfl) (by simp) (AllReadyH.cons (o := { dst := some 15, op := _, type := _, pos := _, after := _, guard := none }) rfl (fun K hK => ?_) AllReadyH.nil)
  obtain ⟨cq, xq, hcv, hbq, hrq⟩ := conv_str s W3
  go_simp
  have HS4 : Hid (WS w0 bb base xq (L ++ [UInt8.ofNat s.size])) := HS3.out.mv hbq
  have HC4 : Hid (CT xq bb p (.string s)) := HC3.out.mv hbq
  have HP4 : Hid (CT xq bb ⟨pb, 0, none⟩ (putF bb)) := HP3.out.mv hbq
  have HK4 : Hid (KT bb W xq) := HK3.out.trans (KT.of_below hbq)
  have HO4 : Own1 bb base xq (L ++ [UInt8.ofNat s.size]) := HO3.out.mv hbq
  refine hK.out _ _ (hHeld.below hbq) (fun hHeld => ?_)
  clear hK K hbq HS3 HC3 HP3 HK3 hcv
  refine wpAnyH_ready (rs := [5]) (by kernel_rfl) (by simp) (AllReadyH.cons (o := { dst := some 16, op := _, type := _, pos := _, after := _, guard := none }) rfl (fun K hK => ?_) AllReadyH.nil)
  go_simp
  refine (put1_any w0 bb base _ (L ++ [UInt8.ofNat s.size]) s.data.toList HS4 ⟨_, 0, none⟩ s.size _ Array.length_toList (.inr HO4) (by simp; omega) (by simp) hrq).mono ?_
  rintro e v2 ⟨⟨r2, rfl⟩, hw2, hk2, ho2⟩
  have HWF : Hid (WS w0 bb base v2 (L ++ (UInt8.ofNat s.size :: s.data.toList))) := by have := hw2; rwa [List.append_assoc] at this
  have HKF : Hid (KT bb W v2) := HK4.out.trans hk2
  refine hK.out _ _ ⟨_, hw2, HC4.out.kt hk2, HP4.out.kt hk2⟩ (fun hHeld => ?_)
  clear hK K hHeld hw2 hk2
  refine wpAnyH_done (by kernel_rfl) ?_ _
  go_wp2_with fail
  exact bodyPost_end (v := .tuple #[]) (by simp [results, Tryd.results38, go_sem]) rfl ⟨⟨_, rfl⟩, HWF.out, HKF.out⟩

end Go.Proofs.YtdonjdihffpghaaDoor
