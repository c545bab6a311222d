import Derived.Test.YtcgcljfdfimfgaaDoorR0
import Derived.Deep.RegionHeld3
/- Contracts: the closures of blob.writer: a number, a byte, a flag, a text as bytes. -/
namespace Go.Proofs.YtcgcljfdfimfgaaDoor
open Go.RowKit Sr
set_option linter.unusedVariables false

/-- a number as one that is not below nought. -/
def u64N (n : Int) : Nat := (n % 18446744073709551616).toNat
theorem u64N_wrap (n : Int) : IntKind.u64.wrap n = (u64N n : Int) := by rw [IntKind.wrap_u64]; unfold u64N; omega
theorem u64N_lt (n : Int) : u64N n < 18446744073709551616 := by unfold u64N; omega
theorem one_rdB {W : World} {b : Nat} {B : UInt8} {X : Int} (h : Bx W b [.int .u8 X]) (hB : (B.toNat : Int) = X) : ∀ j x, [B][j]? = some x → W.cell? ((⟨b, 0, none⟩ : Addr).add j) = some (.int .u8 (x.toNat : Int)) := fun j x hj => by
  cases j with
  | zero => simp at hj; subst hj; rw [hB]; simpa [Addr.add] using h.c 0 rfl
  | succ j => simp at hj
theorem conv_str (s : ByteArray) (w : World) : ∃ c w', (convert 9 35 (.string s)).run Tryd.prog w = .ok (.slice (some ⟨w.heap.size, 0, none⟩) s.size c) w' ∧ Below w.heap.size w w' ∧
    ∀ j x, s.data.toList[j]? = some x → w'.cell? ((⟨w.heap.size, 0, none⟩ : Addr).add j) = some (.int .u8 (x.toNat : Int)) := by
  refine ⟨_, _, run_bytes_of_string w 9 35 5 s Tryd.underlying9 Tryd.underlying35 Tryd.underlying5, ?_, ?_⟩
  · exact (Below.drew (Below.refl _ w)).alloc (Nat.le_refl _) _
  · intro j x hj
    have hj1 : s.data[j]? = some x := by simpa using hj
    obtain ⟨hlt, hx⟩ := Array.getElem?_eq_some_iff.1 hj1
    have hb := bytesRow_at s (grownCap w s.size 0 5) j hlt
    rw [hx] at hb
    have ha : ((⟨w.heap.size, 0, none⟩ : Addr).add j) = ⟨w.heap.size, j, none⟩ := by cases j <;> simp [Addr.add]
    rw [ha]
    simp only [World.cell?]
    rw [show (w.drew.alloc (.cells (bytesRow s (grownCap w s.size 0 5)) 5 ((bytesRow s (grownCap w s.size 0 5)).size, (bytesRow s (grownCap w s.size 0 5)).size + 1))).heap[w.heap.size]? = some (.cells (bytesRow s (grownCap w s.size 0 5)) 5 ((bytesRow s (grownCap w s.size 0 5)).size, (bytesRow s (grownCap w s.size 0 5)).size + 1)) from World.alloc_heap_new w.drew _]
    exact hb
theorem rd_bx {W : World} {b : Nat} {L : List UInt8} (h : Bx W b (cellsB L)) : ∀ j x, L[j]? = some x → W.cell? ((⟨b, 0, none⟩ : Addr).add j) = some (.int .u8 (x.toNat : Int)) := fun j x hj => by
  have := h.c j (cellsB_get hj); cases j <;> simpa [Addr.add] using this

set_option maxRecDepth 100000 in
set_option maxHeartbeats 4000000 in
theorem wnum_any (w0 : World) (bb base pb : Nat) (W : World) (L : List UInt8) (HS : Hid (WS w0 bb base W L)) (hlen : L.length ≤ 900000) (hL : 0 < L.length) (p : Addr) (N : Int) (hp : CT W bb p (.int .i64 N)) (hpb : CT W bb ⟨pb, 0, none⟩ (putF bb)) :
    Calls Tryd.prog 30 #[.pointer (some p), .pointer (some ⟨pb, 0, none⟩)] W fun e W' => (∃ v, e = .returned v) ∧ WS w0 bb base W' (L ++ beB 8 (u64N N)) ∧ KT bb W W' := by
  have HC : Hid (CT W bb p (.int .i64 N)) := hp
  have HP : Hid (CT W bb ⟨pb, 0, none⟩ (putF bb)) := hpb
  clear hp hpb
  obtain ⟨M, hM⟩ : ∃ M, u64N N = M := ⟨_, rfl⟩
  have hMw := u64N_wrap N
  have hM2 := u64N_lt N
  rw [hM] at hMw hM2 ⊢
  have HH : Hid (∀ w : World, Calls Tryd.prog 31 #[.int .u64 (M : Int), .int .i64 8] w fun e w' => e = .returned (.slice (some ⟨w.heap.size, 0, none⟩) 8 8) ∧ Below w.heap.size w w' ∧ Bx w' w.heap.size (cellsB (beB 8 M))) := highest_8 M hM2
  go_enter Tryd.func30, Tryd.ntmps30
  go_wp2_with fail
  have HS0 : Hid (WS w0 bb base W.drew L) := HS.out.mv (below_drew1 _)
  have HC0 : Hid (CT W.drew bb p (.int .i64 N)) := HC.out.mv (below_drew1 _)
  have HP0 : Hid (CT W.drew bb ⟨pb, 0, none⟩ (putF bb)) := HP.out.mv (below_drew1 _)
  have HK0 : Hid (KT bb W W.drew) := KT.of_below (below_drew1 _)
  refine wp_region_held_drew (S := WC w0 bb base pb p (.int .i64 N)) (by kernel_rfl) ⟨L, HS.out.mv (below_drew1 _), HC.out.mv (below_drew1 _), HP.out.mv (below_drew1 _)⟩ (fun hHeld => ?_)
  refine wpAnyH_take (i := 0) (v := ?_) (oi := { dst := some 3, op := _, type := _, pos := _, after := _, guard := none }) rfl (by kernel_rfl) (by kernel_rfl) (by kernel_rfl) (fun _ _ _ h => h) (Or.inl ⟨by kernel_rfl, ?_⟩) (by assumption) ?_
  case refine_2 => (intro w9 hSw; obtain ⟨_, _, z2, z3⟩ := hSw; have q2 := z2.1; have q3 := z3.1; clear z2 z3; go_simp; try with_reducible rfl)
  simp only [Act.put, List.setIfInBounds_toArray, List.set_cons_zero, List.set_cons_succ]
  refine wpAnyH_take (i := 1) (v := ?_) (oi := { dst := some 4, op := _, type := _, pos := _, after := _, guard := none }) rfl (by kernel_rfl) (by kernel_rfl) (by kernel_rfl) (fun _ _ _ h => h) (Or.inl ⟨by kernel_rfl, ?_⟩) (by assumption) ?_
  case refine_2 => (intro w9 hSw; clear hSw; go_simp; try with_reducible rfl)
  simp only [Act.put, List.setIfInBounds_toArray, List.set_cons_zero, List.set_cons_succ]
  refine wpAnyH_take (i := 2) (v := ?_) (oi := { dst := some 5, op := _, type := _, pos := _, after := _, guard := none }) rfl (by kernel_rfl) (by kernel_rfl) (by kernel_rfl) (fun _ _ _ h => h) (Or.inl ⟨by kernel_rfl, ?_⟩) (by assumption) ?_
  case refine_2 => (intro w9 hSw; clear hSw; go_simp; try with_reducible rfl)
  simp only [Act.put, List.setIfInBounds_toArray, List.set_cons_zero, List.set_cons_succ]
  refine wpAnyH_take (i := 3) (v := ?_) (oi := { dst := some 6, op := _, type := _, pos := _, after := _, guard := none }) rfl (by kernel_rfl) (by kernel_rfl) (by kernel_rfl) (fun _ _ _ h => h) (Or.inl ⟨by kernel_rfl, ?_⟩) (by assumption) ?_
  case refine_2 => (intro w9 hSw; obtain ⟨_, _, z2, z3⟩ := hSw; have q2 := z2.1; have q3 := z3.1; clear z2 z3; go_simp; try with_reducible rfl)
  simp only [Act.put, List.setIfInBounds_toArray, List.set_cons_zero, List.set_cons_succ]
  refine wpAnyH_take (i := 4) (v := ?_) (oi := { dst := some 7, op := _, type := _, pos := _, after := _, guard := none }) rfl (by kernel_rfl) (by kernel_rfl) (by kernel_rfl) (fun _ _ _ h => h) (Or.inl ⟨by kernel_rfl, ?_⟩) (by assumption) ?_
  case refine_2 => (intro w9 hSw; clear hSw; go_simp; try with_reducible rfl)
  simp only [Act.put, List.setIfInBounds_toArray, List.set_cons_zero, List.set_cons_succ]
  refine wpAnyH_ready (rs := [5]) (by kernel_rfl) (by simp) (AllReadyH.cons (o := { dst := some 8, op := _, type := _, pos := _, after := _, guard := none }) rfl (fun K hK => ?_) AllReadyH.nil)
  go_simp
  refine (HH.out _).mono ?_
  rintro e v1 ⟨rfl, hb1, hx1⟩
  have HS1 : Hid (WS w0 bb base v1 L) := HS0.out.mv hb1
  have HC1 : Hid (CT v1 bb p (.int .i64 N)) := HC0.out.mv hb1
  have HP1 : Hid (CT v1 bb ⟨pb, 0, none⟩ (putF bb)) := HP0.out.mv hb1
  have HK1 : Hid (KT bb W v1) := HK0.out.trans (KT.of_below hb1)
  refine hK.out _ _ (hHeld.below hb1) (fun hHeld => ?_)
  clear hK K hb1 HS0 HC0 HP0 HK0
  refine wpAnyH_ready (rs := [6]) (by kernel_rfl) (by simp) (AllReadyH.cons (o := { dst := some 9, op := _, type := _, pos := _, after := _, guard := none }) rfl (fun K hK => ?_) AllReadyH.nil)
  go_simp
  refine (put1_any w0 bb base _ L (beB 8 M) HS1 ⟨_, 0, none⟩ 8 8 (beB_len _ _) (.inl (by decide)) (by omega) hL (rd_bx hx1)).mono ?_
  rintro e v2 ⟨⟨r2, rfl⟩, hw2, hk2, ho2⟩
  have HWF : Hid (WS w0 bb base v2 (L ++ beB 8 M)) := hw2
  have HKF : Hid (KT bb W v2) := HK1.out.trans hk2
  refine hK.out _ _ ⟨_, hw2, HC1.out.kt hk2, HP1.out.kt hk2⟩ (fun hHeld => ?_)
  clear hK K hHeld hw2 hk2
  refine wpAnyH_done (by kernel_rfl) ?_ _
  go_wp2_with fail
  exact bodyPost_end (v := .tuple #[]) (by simp [results, Tryd.results30, go_sem]) rfl ⟨⟨_, rfl⟩, HWF.out, HKF.out⟩

set_option maxRecDepth 100000 in
set_option maxHeartbeats 4000000 in
theorem woct_any (w0 : World) (bb base pb : Nat) (W : World) (L : List UInt8) (HS : Hid (WS w0 bb base W L)) (hlen : L.length ≤ 900000) (hL : 0 < L.length) (p : Addr) (X : Int) (B : UInt8) (hB : (B.toNat : Int) = X) (hp : CT W bb p (.int .u8 X)) (hpb : CT W bb ⟨pb, 0, none⟩ (putF bb)) :
    Calls Tryd.prog 32 #[.pointer (some p), .pointer (some ⟨pb, 0, none⟩)] W fun e W' => (∃ v, e = .returned v) ∧ WS w0 bb base W' (L ++ [B]) ∧ KT bb W W' := by
  have HC : Hid (CT W bb p (.int .u8 X)) := hp
  have HP : Hid (CT W bb ⟨pb, 0, none⟩ (putF bb)) := hpb
  clear hp hpb
  have HB : Hid ((B.toNat : Int) = X) := hB
  clear hB
  go_enter Tryd.func32, Tryd.ntmps32
  go_wp2_with fail
  have HS0 : Hid (WS w0 bb base W.drew L) := HS.out.mv (below_drew1 _)
  have HC0 : Hid (CT W.drew bb p (.int .u8 X)) := HC.out.mv (below_drew1 _)
  have HP0 : Hid (CT W.drew bb ⟨pb, 0, none⟩ (putF bb)) := HP.out.mv (below_drew1 _)
  have HK0 : Hid (KT bb W W.drew) := KT.of_below (below_drew1 _)
  refine wp_region_held_drew (S := WC w0 bb base pb p (.int .u8 X)) (by kernel_rfl) ⟨L, HS.out.mv (below_drew1 _), HC.out.mv (below_drew1 _), HP.out.mv (below_drew1 _)⟩ (fun hHeld => ?_)
  obtain ⟨W0, hW0⟩ : ∃ W0, W.drew = W0 := ⟨_, rfl⟩
  rw [hW0] at HS0 HC0 HP0 HK0 hHeld ⊢
  clear hW0
  refine wpAnyH_take (i := 0) (v := ?_) (oi := { dst := some 3, op := _, type := _, pos := _, after := _, guard := none }) rfl (by kernel_rfl) (by kernel_rfl) (by kernel_rfl) (fun _ _ _ h => h) (Or.inl ⟨by kernel_rfl, ?_⟩) (by assumption) ?_
  case refine_2 => (intro w9 hSw; obtain ⟨_, _, z2, z3⟩ := hSw; have q2 := z2.1; have q3 := z3.1; clear z2 z3; go_simp; try with_reducible rfl)
  simp only [Act.put, List.setIfInBounds_toArray, List.set_cons_zero, List.set_cons_succ]
  refine wpAnyH_take (i := 1) (v := ?_) (oi := { dst := some 4, op := _, type := _, pos := _, after := _, guard := none }) rfl (by kernel_rfl) (by kernel_rfl) (by kernel_rfl) (fun _ _ _ h => h) (Or.inl ⟨by kernel_rfl, ?_⟩) (by assumption) ?_
  case refine_2 => (intro w9 hSw; clear hSw; go_simp; try with_reducible rfl)
  simp only [Act.put, List.setIfInBounds_toArray, List.set_cons_zero, List.set_cons_succ]
  refine wpAnyH_take (i := 2) (v := ?_) (oi := { dst := some 5, op := _, type := _, pos := _, after := _, guard := none }) rfl (by kernel_rfl) (by kernel_rfl) (by kernel_rfl) (fun _ _ _ h => h) (Or.inl ⟨by kernel_rfl, ?_⟩) (by assumption) ?_
  case refine_2 => (intro w9 hSw; clear hSw; go_simp; try with_reducible rfl)
  simp only [Act.put, List.setIfInBounds_toArray, List.set_cons_zero, List.set_cons_succ]
  refine wpAnyH_take (i := 3) (v := ?_) (oi := { dst := some 6, op := _, type := _, pos := _, after := _, guard := none }) rfl (by kernel_rfl) (by kernel_rfl) (by kernel_rfl) (fun _ _ _ h => h) (Or.inl ⟨by kernel_rfl, ?_⟩) (by assumption) ?_
  case refine_2 => (intro w9 hSw; obtain ⟨_, _, z2, z3⟩ := hSw; have q2 := z2.1; have q3 := z3.1; clear z2 z3; go_simp; try with_reducible rfl)
  simp only [Act.put, List.setIfInBounds_toArray, List.set_cons_zero, List.set_cons_succ]
  refine wpAnyH_ready (rs := [4]) (by kernel_rfl) (by simp) (AllReadyH.cons (o := { dst := some 7, op := _, type := _, pos := _, after := _, guard := none }) rfl (fun K hK => ?_) AllReadyH.nil)
  go_simp
  have hb1 := (Below.refl _ W0).alloc (Nat.le_refl _) (.cells #[.int .u8 X] 5)
  have HS1 : Hid (WS w0 bb base _ L) := HS0.out.mv hb1
  have HC1 : Hid (CT _ bb p (.int .u8 X)) := HC0.out.mv hb1
  have HP1 : Hid (CT _ bb ⟨pb, 0, none⟩ (putF bb)) := HP0.out.mv hb1
  have HK1 : Hid (KT bb W _) := HK0.out.trans (KT.of_below hb1)
  have hx1 : Bx (W0.alloc (.cells #[.int .u8 X] 5)) W0.heap.size [.int .u8 X] := Bx.new W0 [.int .u8 X] 5
  refine hK.out _ _ (hHeld.below hb1) (fun hHeld => ?_)
  clear hK K hb1 HS0 HC0 HP0 HK0
  refine wpAnyH_ready (rs := [5]) (by kernel_rfl) (by simp) (AllReadyH.cons (o := { dst := some 8, op := _, type := _, pos := _, after := _, guard := none }) rfl (fun K hK => ?_) AllReadyH.nil)
  go_simp
  refine (put1_any w0 bb base _ L [B] HS1 ⟨_, 0, none⟩ 1 _ (rfl) (.inl (by decide)) (by omega) hL (one_rdB hx1 HB.out)).mono ?_
  rintro e v2 ⟨⟨r2, rfl⟩, hw2, hk2, ho2⟩
  have HWF : Hid (WS w0 bb base v2 (L ++ [B])) := hw2
  have HKF : Hid (KT bb W v2) := HK1.out.trans hk2
  refine hK.out _ _ ⟨_, hw2, HC1.out.kt hk2, HP1.out.kt hk2⟩ (fun hHeld => ?_)
  clear hK K hHeld hw2 hk2
  refine wpAnyH_done (by kernel_rfl) ?_ _
  go_wp2_with fail
  exact bodyPost_end (v := .tuple #[]) (by simp [results, Tryd.results32, go_sem]) rfl ⟨⟨_, rfl⟩, HWF.out, HKF.out⟩

set_option maxRecDepth 100000 in
set_option maxHeartbeats 4000000 in
theorem wflag_true (w0 : World) (bb base pb : Nat) (W : World) (L : List UInt8) (HS : Hid (WS w0 bb base W L)) (hlen : L.length ≤ 900000) (hL : 0 < L.length) (p : Addr) (hp : CT W bb p (.bool true)) (hpb : CT W bb ⟨pb, 0, none⟩ (putF bb)) :
    Calls Tryd.prog 33 #[.pointer (some p), .pointer (some ⟨pb, 0, none⟩)] W fun e W' => (∃ v, e = .returned v) ∧ WS w0 bb base W' (L ++ [1]) ∧ KT bb W W' := by
  have hc1 := hp.1
  have hc2 := hpb.1
  go_enter Tryd.func33, Tryd.ntmps33
  go_wp2_with fail
  have hb1 := (Below.refl _ W).alloc (Nat.le_refl _) (.cells #[.int .u8 1] 5)
  refine (put1_any w0 bb base _ L [1] (HS.out.mv hb1) ⟨_, 0, none⟩ 1 _ rfl (.inl (by decide)) (by omega) hL (one_rdB (Bx.new W [.int .u8 1] 5) rfl)).mono ?_
  rintro e v1 ⟨⟨r1, rfl⟩, hw1, hk1, _⟩
  have HWF : Hid (WS w0 bb base v1 (L ++ [1])) := hw1
  have HKF : Hid (KT bb W v1) := (KT.of_below hb1).trans hk1
  clear hw1 hk1 hb1
  go_wp2_with fail
  exact bodyPost_end (v := .tuple #[]) (by simp [results, Tryd.results33, go_sem]) rfl ⟨⟨_, rfl⟩, HWF.out, HKF.out⟩

set_option maxRecDepth 100000 in
set_option maxHeartbeats 4000000 in
theorem wflag_false (w0 : World) (bb base pb : Nat) (W : World) (L : List UInt8) (HS : Hid (WS w0 bb base W L)) (hlen : L.length ≤ 900000) (hL : 0 < L.length) (p : Addr) (hp : CT W bb p (.bool false)) (hpb : CT W bb ⟨pb, 0, none⟩ (putF bb)) :
    Calls Tryd.prog 33 #[.pointer (some p), .pointer (some ⟨pb, 0, none⟩)] W fun e W' => (∃ v, e = .returned v) ∧ WS w0 bb base W' (L ++ [0]) ∧ KT bb W W' := by
  have hc1 := hp.1
  have hc2 := hpb.1
  go_enter Tryd.func33, Tryd.ntmps33
  go_wp2_with fail
  have hb1 := (Below.refl _ W).alloc (Nat.le_refl _) (.cells #[.int .u8 0] 5)
  refine (put1_any w0 bb base _ L [0] (HS.out.mv hb1) ⟨_, 0, none⟩ 1 _ rfl (.inl (by decide)) (by omega) hL (one_rdB (Bx.new W [.int .u8 0] 5) rfl)).mono ?_
  rintro e v1 ⟨⟨r1, rfl⟩, hw1, hk1, _⟩
  have HWF : Hid (WS w0 bb base v1 (L ++ [0])) := hw1
  have HKF : Hid (KT bb W v1) := (KT.of_below hb1).trans hk1
  clear hw1 hk1 hb1
  go_wp2_with fail
  exact bodyPost_end (v := .tuple #[]) (by simp [results, Tryd.results33, go_sem]) rfl ⟨⟨_, rfl⟩, HWF.out, HKF.out⟩

set_option maxRecDepth 100000 in
set_option maxHeartbeats 4000000 in
theorem wtext_any (w0 : World) (bb base pb : Nat) (W : World) (L : List UInt8) (HS : Hid (WS w0 bb base W L)) (hlen : L.length ≤ 900000) (hL : 0 < L.length) (p : Addr) (s : ByteArray) (hs : L.length + s.size ≤ 900000) (hp : CT W bb p (.string s)) (hpb : CT W bb ⟨pb, 0, none⟩ (putF bb)) :
    Calls Tryd.prog 34 #[.pointer (some p), .pointer (some ⟨pb, 0, none⟩)] W fun e W' => (∃ v, e = .returned v) ∧ WS w0 bb base W' (L ++ (UInt8.ofNat s.size :: s.data.toList)) ∧ KT bb W W' := by
  have HC : Hid (CT W bb p (.string s)) := hp
  have HP : Hid (CT W bb ⟨pb, 0, none⟩ (putF bb)) := hpb
  clear hp hpb
  have HZ : Hid (((UInt8.ofNat s.size).toNat : Int) = IntKind.u8.wrap (s.size : Int)) := by show _ = _; rw [IntKind.wrap_u8, u8_of]; omega
  go_enter Tryd.func34, Tryd.ntmps34
  go_wp2_with fail
  have HS0 : Hid (WS w0 bb base W.drew L) := HS.out.mv (below_drew1 _)
  have HC0 : Hid (CT W.drew bb p (.string s)) := HC.out.mv (below_drew1 _)
  have HP0 : Hid (CT W.drew bb ⟨pb, 0, none⟩ (putF bb)) := HP.out.mv (below_drew1 _)
  have HK0 : Hid (KT bb W W.drew) := KT.of_below (below_drew1 _)
  refine wp_region_held_drew (S := WC w0 bb base pb p (.string s)) (by kernel_rfl) ⟨L, HS.out.mv (below_drew1 _), HC.out.mv (below_drew1 _), HP.out.mv (below_drew1 _)⟩ (fun hHeld => ?_)
  obtain ⟨W0, hW0⟩ : ∃ W0, W.drew = W0 := ⟨_, rfl⟩
  rw [hW0] at HS0 HC0 HP0 HK0 hHeld ⊢
  clear hW0
  refine wpAnyH_take (i := 0) (v := ?_) (oi := { dst := some 3, op := _, type := _, pos := _, after := _, guard := none }) rfl (by kernel_rfl) (by kernel_rfl) (by kernel_rfl) (fun _ _ _ h => h) (Or.inl ⟨by kernel_rfl, ?_⟩) (by assumption) ?_
  case refine_2 => (intro w9 hSw; obtain ⟨_, _, z2, z3⟩ := hSw; have q2 := z2.1; have q3 := z3.1; clear z2 z3; go_simp; try with_reducible rfl)
  simp only [Act.put, List.setIfInBounds_toArray, List.set_cons_zero, List.set_cons_succ]
  refine wpAnyH_take (i := 1) (v := ?_) (oi := { dst := some 4, op := _, type := _, pos := _, after := _, guard := none }) rfl (by kernel_rfl) (by kernel_rfl) (by kernel_rfl) (fun _ _ _ h => h) (Or.inl ⟨by kernel_rfl, ?_⟩) (by assumption) ?_
  case refine_2 => (intro w9 hSw; clear hSw; go_simp; try with_reducible rfl)
  simp only [Act.put, List.setIfInBounds_toArray, List.set_cons_zero, List.set_cons_succ]
  refine wpAnyH_take (i := 2) (v := ?_) (oi := { dst := some 5, op := _, type := _, pos := _, after := _, guard := none }) rfl (by kernel_rfl) (by kernel_rfl) (by kernel_rfl) (fun _ _ _ h => h) (Or.inl ⟨by kernel_rfl, ?_⟩) (by assumption) ?_
  case refine_2 => (intro w9 hSw; clear hSw; go_simp; try with_reducible rfl)
  simp only [Act.put, List.setIfInBounds_toArray, List.set_cons_zero, List.set_cons_succ]
  refine wpAnyH_take (i := 3) (v := ?_) (oi := { dst := some 6, op := _, type := _, pos := _, after := _, guard := none }) rfl (by kernel_rfl) (by kernel_rfl) (by kernel_rfl) (fun _ _ _ h => h) (Or.inl ⟨by kernel_rfl, ?_⟩) (by assumption) ?_
  case refine_2 => (intro w9 hSw; obtain ⟨_, _, z2, z3⟩ := hSw; have q2 := z2.1; have q3 := z3.1; clear z2 z3; go_simp; try with_reducible rfl)
  simp only [Act.put, List.setIfInBounds_toArray, List.set_cons_zero, List.set_cons_succ]
  refine wpAnyH_take (i := 4) (v := ?_) (oi := { dst := some 7, op := _, type := _, pos := _, after := _, guard := none }) rfl (by kernel_rfl) (by kernel_rfl) (by kernel_rfl) (fun _ _ _ h => h) (Or.inl ⟨by kernel_rfl, ?_⟩) (by assumption) ?_
  case refine_2 => (intro w9 hSw; clear hSw; go_simp; try with_reducible rfl)
  simp only [Act.put, List.setIfInBounds_toArray, List.set_cons_zero, List.set_cons_succ]
  refine wpAnyH_take (i := 5) (v := ?_) (oi := { dst := some 8, op := _, type := _, pos := _, after := _, guard := none }) rfl (by kernel_rfl) (by kernel_rfl) (by kernel_rfl) (fun _ _ _ h => h) (Or.inl ⟨by kernel_rfl, ?_⟩) (by assumption) ?_
  case refine_2 => (intro w9 hSw; clear hSw; go_simp; try with_reducible rfl)
  simp only [Act.put, List.setIfInBounds_toArray, List.set_cons_zero, List.set_cons_succ]
  refine wpAnyH_ready (rs := [6]) (by kernel_rfl) (by simp) (AllReadyH.cons (o := { dst := some 9, op := _, type := _, pos := _, after := _, guard := none }) rfl (fun K hK => ?_) AllReadyH.nil)
  go_simp
  have hb1 := (Below.refl _ W0).alloc (Nat.le_refl _) (.cells #[.int .u8 (IntKind.u8.wrap (s.size : Int))] 5)
  have HS1 : Hid (WS w0 bb base _ L) := HS0.out.mv hb1
  have HC1 : Hid (CT _ bb p (.string s)) := HC0.out.mv hb1
  have HP1 : Hid (CT _ bb ⟨pb, 0, none⟩ (putF bb)) := HP0.out.mv hb1
  have HK1 : Hid (KT bb W _) := HK0.out.trans (KT.of_below hb1)
  have hx1 : Bx (W0.alloc (.cells #[.int .u8 (IntKind.u8.wrap (s.size : Int))] 5)) W0.heap.size [.int .u8 (IntKind.u8.wrap (s.size : Int))] := Bx.new W0 [.int .u8 (IntKind.u8.wrap (s.size : Int))] 5
  refine hK.out _ _ (hHeld.below hb1) (fun hHeld => ?_)
  clear hK K hb1 HS0 HC0 HP0 HK0
  refine wpAnyH_ready (rs := [7]) (by kernel_rfl) (by simp) (AllReadyH.cons (o := { dst := some 10, op := _, type := _, pos := _, after := _, guard := none }) rfl (fun K hK => ?_) AllReadyH.nil)
  go_simp
  refine (put1_any w0 bb base _ L [UInt8.ofNat s.size] HS1 ⟨_, 0, none⟩ 1 _ (rfl) (.inl (by decide)) (by omega) hL (one_rdB hx1 HZ.out)).mono ?_
  rintro e v2 ⟨⟨r2, rfl⟩, hw2, hk2, ho2⟩
  have HS2 : Hid (WS w0 bb base v2 (L ++ [UInt8.ofNat s.size])) := hw2
  have HK2 : Hid (KT bb W v2) := HK1.out.trans hk2
  refine hK.out _ _ ⟨_, hw2, HC1.out.kt hk2, HP1.out.kt hk2⟩ (fun hHeld => ?_)
  have HO2 : Hid (Own1 bb base v2 (L ++ [UInt8.ofNat s.size])) := ho2
  have HC2 : Hid (CT v2 bb p (.string s)) := HC1.out.kt hk2
  have HP2 : Hid (CT v2 bb ⟨pb, 0, none⟩ (putF bb)) := HP1.out.kt hk2
  clear hK K hHeld hw2 hk2 HS1 HC1 HP1 HK1 hx1
  refine wpAnyH_done (by kernel_rfl) ?_ _
  go_wp2_with fail
  refine wp_region_held_drew (S := WC w0 bb base pb p (.string s)) (by kernel_rfl) ⟨_, HS2.out.mv (below_drew1 _), HC2.out.mv (below_drew1 _), HP2.out.mv (below_drew1 _)⟩ (fun hHeld => ?_)
  have HS3 : Hid (WS w0 bb base v2.drew (L ++ [UInt8.ofNat s.size])) := HS2.out.mv (below_drew1 _)
  have HC3 : Hid (CT v2.drew bb p (.string s)) := HC2.out.mv (below_drew1 _)
  have HP3 : Hid (CT v2.drew bb ⟨pb, 0, none⟩ (putF bb)) := HP2.out.mv (below_drew1 _)
  have HK3 : Hid (KT bb W v2.drew) := HK2.out.trans (KT.of_below (below_drew1 _))
  have HO3 : Hid (Own1 bb base v2.drew (L ++ [UInt8.ofNat s.size])) := HO2.out.mv (below_drew1 _)
  obtain ⟨W3, hW3⟩ : ∃ W3, v2.drew = W3 := ⟨_, rfl⟩
  rw [hW3] at HS3 HC3 HP3 HK3 HO3 hHeld ⊢
  clear hW3 HS2 HC2 HP2 HK2
  refine wpAnyH_take (i := 0) (v := ?_) (oi := { dst := some 11, op := _, type := _, pos := _, after := _, guard := none }) rfl (by kernel_rfl) (by kernel_rfl) (by kernel_rfl) (fun _ _ _ h => h) (Or.inl ⟨by kernel_rfl, ?_⟩) (by assumption) ?_
  case refine_2 => (intro w9 hSw; obtain ⟨_, _, z2, z3⟩ := hSw; have q2 := z2.1; have q3 := z3.1; clear z2 z3; go_simp; try with_reducible rfl)
  simp only [Act.put, List.setIfInBounds_toArray, List.set_cons_zero, List.set_cons_succ]
  refine wpAnyH_take (i := 1) (v := ?_) (oi := { dst := some 12, op := _, type := _, pos := _, after := _, guard := none }) rfl (by kernel_rfl) (by kernel_rfl) (by kernel_rfl) (fun _ _ _ h => h) (Or.inl ⟨by kernel_rfl, ?_⟩) (by assumption) ?_
  case refine_2 => (intro w9 hSw; clear hSw; go_simp; try with_reducible rfl)
  simp only [Act.put, List.setIfInBounds_toArray, List.set_cons_zero, List.set_cons_succ]
  refine wpAnyH_take (i := 2) (v := ?_) (oi := { dst := some 13, op := _, type := _, pos := _, after := _, guard := none }) rfl (by kernel_rfl) (by kernel_rfl) (by kernel_rfl) (fun _ _ _ h => h) (Or.inl ⟨by kernel_rfl, ?_⟩) (by assumption) ?_
  case refine_2 => (intro w9 hSw; clear hSw; go_simp; try with_reducible rfl)
  simp only [Act.put, List.setIfInBounds_toArray, List.set_cons_zero, List.set_cons_succ]
  refine wpAnyH_take (i := 3) (v := ?_) (oi := { dst := some 14, op := _, type := _, pos := _, after := _, guard := none }) rfl (by kernel_rfl) (by kernel_rfl) (by kernel_rfl) (fun _ _ _ h => h) (Or.inl ⟨by kernel_rfl, ?_⟩) (by assumption) ?_
  case refine_2 => (intro w9 hSw; obtain ⟨_, _, z2, z3⟩ := hSw; have q2 := z2.1; have q3 := z3.1; clear z2 z3; go_simp; try with_reducible rfl)
  simp only [Act.put, List.setIfInBounds_toArray, List.set_cons_zero, List.set_cons_succ]
  refine wpAnyH_ready (rs := [4]) (by kernel_rfl) (by simp) (AllReadyH.cons (o := { dst := some 15, op := _, type := _, pos := _, after := _, guard := none }) rfl (fun K hK => ?_) AllReadyH.nil)
  obtain ⟨cq, xq, hcv, hbq, hrq⟩ := conv_str s W3
  go_simp
  have HS4 : Hid (WS w0 bb base xq (L ++ [UInt8.ofNat s.size])) := HS3.out.mv hbq
  have HC4 : Hid (CT xq bb p (.string s)) := HC3.out.mv hbq
  have HP4 : Hid (CT xq bb ⟨pb, 0, none⟩ (putF bb)) := HP3.out.mv hbq
  have HK4 : Hid (KT bb W xq) := HK3.out.trans (KT.of_below hbq)
  have HO4 : Own1 bb base xq (L ++ [UInt8.ofNat s.size]) := HO3.out.mv hbq
  refine hK.out _ _ (hHeld.below hbq) (fun hHeld => ?_)
  clear hK K hbq HS3 HC3 HP3 HK3 hcv
  refine wpAnyH_ready (rs := [5]) (by kernel_rfl) (by simp) (AllReadyH.cons (o := { dst := some 16, op := _, type := _, pos := _, after := _, guard := none }) rfl (fun K hK => ?_) AllReadyH.nil)
  go_simp
  refine (put1_any w0 bb base _ (L ++ [UInt8.ofNat s.size]) s.data.toList HS4 ⟨_, 0, none⟩ s.size _ Array.length_toList (.inr HO4) (by simp; omega) (by simp) hrq).mono ?_
  rintro e v2 ⟨⟨r2, rfl⟩, hw2, hk2, ho2⟩
  have HWF : Hid (WS w0 bb base v2 (L ++ (UInt8.ofNat s.size :: s.data.toList))) := by have := hw2; rwa [List.append_assoc] at this
  have HKF : Hid (KT bb W v2) := HK4.out.trans hk2
  refine hK.out _ _ ⟨_, hw2, HC4.out.kt hk2, HP4.out.kt hk2⟩ (fun hHeld => ?_)
  clear hK K hHeld hw2 hk2
  refine wpAnyH_done (by kernel_rfl) ?_ _
  go_wp2_with fail
  exact bodyPost_end (v := .tuple #[]) (by simp [results, Tryd.results34, go_sem]) rfl ⟨⟨_, rfl⟩, HWF.out, HKF.out⟩

end Go.Proofs.YtcgcljfdfimfgaaDoor
/- What writing and reading have in common: four closures that pass through a table's parts; blob's stand. -/
namespace Go.Proofs.YtcgcljfdfimfgaaDoor
open Go.RowKit Sr
set_option linter.unusedVariables false

/-- all blocks but bb, b and rows of bytes lie as they lay. -/
def KT2 (bb b : Nat) (W W' : World) : Prop := W.heap.size ≤ W'.heap.size ∧ ∀ k o, W.heap[k]? = some o → k ≠ bb → k ≠ b → (∀ cs fz, o ≠ .cells cs 5 fz) → W'.heap[k]? = some o
theorem KT2.refl (bb b : Nat) (W : World) : KT2 bb b W W := ⟨Nat.le_refl _, fun _ _ h _ _ _ => h⟩
theorem KT2.trans {bb b : Nat} {A B C : World} (h : KT2 bb b A B) (k : KT2 bb b B C) : KT2 bb b A C := ⟨Nat.le_trans h.1 k.1, fun i o hi hb hn h5 => k.2 i o (h.2 i o hi hb hn h5) hb hn h5⟩
theorem KT2.of_below {bb b : Nat} {A B : World} (h : Below A.heap.size A B) : KT2 bb b A B := ⟨h.size, fun i o hi _ _ _ => (h.block i (Array.getElem?_eq_some_iff.1 hi).1).trans hi⟩
theorem KT2.of_kt {bb b : Nat} {A B : World} (h : KT bb A B) : KT2 bb b A B := ⟨h.1, fun i o hi hb _ h5 => h.2 i o hi hb h5⟩
/-- a block of cells that are no bytes is kept. -/
theorem KT2.blk {bb b : Nat} {A B : World} (h : KT2 bb b A B) {q : Nat} {cs : Array Value} {t : TypeId} {fz : Nat × Nat} (hq : A.heap[q]? = some (.cells cs t fz)) (h1 : q ≠ bb) (h2 : q ≠ b) (ht : t ≠ 5) : B.heap[q]? = some (.cells cs t fz) := h.2 _ _ hq h1 h2 (fun _ _ e => ht (by cases e; rfl))
theorem blk_below {A B : World} (h : Below A.heap.size A B) {q : Nat} {o : Obj} (hq : A.heap[q]? = some o) : B.heap[q]? = some o := (h.block q (Array.getElem?_eq_some_iff.1 hq).1).trans hq
abbrev clo (k pb : Nat) : Value := .func (.func k) #[] #[.pointer (some ⟨pb, 0, none⟩)]
/-- four closures over one box, and what each does with the bytes and its cell. -/
structure PM (bb pb : Nat) where
  kN : Nat
  kO : Nat
  kF : Nat
  kT : Nat
  lo : Nat
  lw : Nat
  St : World → List UInt8 → Prop
  ok : List UInt8 → Prop
  num : List UInt8 → Int → List UInt8 × Int
  oct : List UInt8 → UInt8 → List UInt8 × UInt8
  flag : List UInt8 → Bool → List UInt8 × Bool
  text : List UInt8 → ByteArray → List UInt8 × ByteArray
  hN : ∀ (W : World) (σ : List UInt8) (b i : Nat) (cs : Array Value) (ty : TypeId) (x : Int), St W σ → ok (num σ x).1 → W.heap[b]? = some (.cells cs ty (0, 0)) → b ≠ bb → b ≠ pb → ty ≠ 5 → lw ≤ b → cs[i]? = some (.int .i64 x) →
    Calls Tryd.prog kN #[.pointer (some ⟨b, i, none⟩), .pointer (some ⟨pb, 0, none⟩)] W fun e W' => (∃ v, e = .returned v) ∧ St W' (num σ x).1 ∧ W'.heap[b]? = some (.cells (cs.setIfInBounds i (.int .i64 (num σ x).2)) ty (0, 0)) ∧ KT2 bb b W W'
  hO : ∀ (W : World) (σ : List UInt8) (b i : Nat) (cs : Array Value) (ty : TypeId) (x : UInt8), St W σ → ok (oct σ x).1 → W.heap[b]? = some (.cells cs ty (0, 0)) → b ≠ bb → b ≠ pb → ty ≠ 5 → lw ≤ b → cs[i]? = some (.int .u8 (x.toNat : Int)) →
    Calls Tryd.prog kO #[.pointer (some ⟨b, i, none⟩), .pointer (some ⟨pb, 0, none⟩)] W fun e W' => (∃ v, e = .returned v) ∧ St W' (oct σ x).1 ∧ W'.heap[b]? = some (.cells (cs.setIfInBounds i (.int .u8 ((oct σ x).2.toNat : Int))) ty (0, 0)) ∧ KT2 bb b W W'
  hF : ∀ (W : World) (σ : List UInt8) (b i : Nat) (cs : Array Value) (ty : TypeId) (x : Bool), St W σ → ok (flag σ x).1 → W.heap[b]? = some (.cells cs ty (0, 0)) → b ≠ bb → b ≠ pb → ty ≠ 5 → lw ≤ b → cs[i]? = some (.bool x) →
    Calls Tryd.prog kF #[.pointer (some ⟨b, i, none⟩), .pointer (some ⟨pb, 0, none⟩)] W fun e W' => (∃ v, e = .returned v) ∧ St W' (flag σ x).1 ∧ W'.heap[b]? = some (.cells (cs.setIfInBounds i (.bool (flag σ x).2)) ty (0, 0)) ∧ KT2 bb b W W'
  hT : ∀ (W : World) (σ : List UInt8) (b i : Nat) (cs : Array Value) (ty : TypeId) (x : ByteArray), St W σ → ok (text σ x).1 → W.heap[b]? = some (.cells cs ty (0, 0)) → b ≠ bb → b ≠ pb → ty ≠ 5 → lw ≤ b → cs[i]? = some (.string x) →
    Calls Tryd.prog kT #[.pointer (some ⟨b, i, none⟩), .pointer (some ⟨pb, 0, none⟩)] W fun e W' => (∃ v, e = .returned v) ∧ St W' (text σ x).1 ∧ W'.heap[b]? = some (.cells (cs.setIfInBounds i (.string (text σ x).2)) ty (0, 0)) ∧ KT2 bb b W W'
  bN : ∀ σ x, ok (num σ x).1 → ok σ
  bO : ∀ σ x, ok (oct σ x).1 → ok σ
  bF : ∀ σ x, ok (flag σ x).1 → ok σ
  bT : ∀ σ x, ok (text σ x).1 → ok σ
  eN : ∀ args w, (callFunc kN args).run Tryd.prog w = .ok (.enter kN args) w
  eO : ∀ args w, (callFunc kO args).run Tryd.prog w = .ok (.enter kO args) w
  eF : ∀ args w, (callFunc kF args).run Tryd.prog w = .ok (.enter kF args) w
  eT : ∀ args w, (callFunc kT args).run Tryd.prog w = .ok (.enter kT args) w
  below : ∀ W W' σ, St W σ → Below W.heap.size W W' → St W' σ
  set : ∀ W σ b i (cs : Array Value) ty v, St W σ → W.heap[b]? = some (.cells cs ty (0, 0)) → lo ≤ b → b ≠ bb → b ≠ pb → ty ≠ 5 → St (W.setCell ⟨b, i, none⟩ v) σ
  grow : ∀ W W' σ row, St W σ → W.grownBy W' row → (∀ k, row = some k → lo ≤ k ∧ k ≠ bb ∧ k ≠ pb ∧ ∃ cs ty fz, W.heap[k]? = some (.cells cs ty fz) ∧ ty ≠ 5) → St W' σ
  ty : ∀ W σ, St W σ → (∀ cs fz, W.heap[bb]? ≠ some (.cells cs 23 fz)) ∧ (∀ cs fz, W.heap[pb]? ≠ some (.cells cs 23 fz))
  lt : ∀ W σ, St W σ → bb < W.heap.size ∧ pb < W.heap.size
  le : ∀ W σ, St W σ → lw ≤ W.heap.size
/-- the parts, as a struct. -/
abbrev PM.agg {bb pb : Nat} (m : PM bb pb) : Array Value := #[clo m.kN pb, clo m.kO pb, clo m.kF pb, clo m.kT pb]
/-- the box of the parts. -/
def PB (q : Nat) (fs : Array Value) (W : World) : Prop := W.heap[q]? = some (.cells fs 63 (0, 0))
theorem PB.c {q : Nat} {a0 a1 a2 a3 : Value} {W : World} (h : PB q #[a0, a1, a2, a3] W) : W.cell? ⟨q, 0, none⟩ = some a0 ∧ W.cell? ⟨q, 1, none⟩ = some a1 ∧ W.cell? ⟨q, 2, none⟩ = some a2 ∧ W.cell? ⟨q, 3, none⟩ = some a3 := by
  unfold PB at h
  simp [World.cell?, h]
/-- what stands between two closures' calls. -/
structure PS {bb pb : Nat} (m : PM bb pb) (W0 : World) (q b : Nat) (ty : TypeId) (W : World) (σ : List UInt8) (cs : Array Value) : Prop where
  st : m.St W σ
  blk : W.heap[b]? = some (.cells cs ty (0, 0))
  box : PB q m.agg W
  kt : KT2 bb b W0 W
theorem PS.mv {bb pb : Nat} {m : PM bb pb} {W0 : World} {q b : Nat} {ty : TypeId} {W W' : World} {σ : List UInt8} {cs : Array Value} (h : PS m W0 q b ty W σ cs) (k : Below W.heap.size W W') : PS m W0 q b ty W' σ cs :=
  ⟨m.below _ _ _ h.st k, blk_below k h.blk, blk_below k h.box, h.kt.trans (KT2.of_below k)⟩

set_option maxRecDepth 100000 in
set_option maxHeartbeats 4000000 in
theorem stand_any {bb pb : Nat} (m : PM bb pb) (W : World) (σ : List UInt8) (b i : Nat) (cs : Array Value) (ty : TypeId) (off : Int) (dst : Bool) (abbr : ByteArray) (hS : Hid (m.St W σ)) (hblk : Hid (W.heap[b]? = some (.cells cs ty (0, 0)))) (hb1 : b ≠ bb) (hb2 : b ≠ pb) (h5 : ty ≠ 5) (hlw : m.lw ≤ b)
    (hc1 : cs[i + 1]? = some (.int .i64 off)) (hc2 : cs[i + 2]? = some (.bool dst)) (hc3 : cs[i + 3]? = some (.string abbr)) (HK : Hid (m.ok (m.text (m.flag (m.num σ off).1 dst).1 abbr).1)) :
    Calls Tryd.prog 28 #[.agg m.agg, .pointer (some ⟨b, i, none⟩)] W fun e W' => (∃ v, e = .returned v) ∧ m.St W' (m.text (m.flag (m.num σ off).1 dst).1 abbr).1 ∧
      W'.heap[b]? = some (.cells (((cs.setIfInBounds (i + 1) (.int .i64 (m.num σ off).2)).setIfInBounds (i + 2) (.bool (m.flag (m.num σ off).1 dst).2)).setIfInBounds (i + 3) (.string (m.text (m.flag (m.num σ off).1 dst).1 abbr).2)) ty (0, 0)) ∧ KT2 bb b W W' := by
  have K3 := HK.out
  have K2 := m.bT _ _ K3
  have K1 := m.bF _ _ K2
  have e1 := m.eN
  have e2 := m.eF
  have e3 := m.eT
  obtain ⟨q, hq⟩ : ∃ q, W.heap.size = q := ⟨_, rfl⟩
  have hq1 : q ≠ bb := by have := (m.lt _ _ hS.out).1; omega
  have hq2 : q ≠ b := by have := (Array.getElem?_eq_some_iff.1 hblk.out).1; omega
  have P0 : Hid (PS m W q b ty (W.alloc (.cells m.agg 63)) σ cs) := by
    have hb := (Below.refl _ W).alloc (Nat.le_refl _) (.cells m.agg 63)
    exact ⟨m.below _ _ _ hS.out hb, blk_below hb hblk.out, by rw [← hq]; exact World.alloc_heap_new W _, KT2.of_below hb⟩
  clear hS hblk HK
  go_enter Tryd.func28, Tryd.ntmps28
  go_wp2_with fail
  clear hq
  refine gen_code (fun w1 => PS m W q b ty w1 σ cs) P0.out ?_
  clear P0
  rintro w1 P0
  have P0 : Hid (PS m W q b ty w1 σ cs) := P0
  refine wp_region_held_drew (S := PB q m.agg) (by kernel_rfl) (P0.out.mv (below_drew1 _)).box (fun hHeld => ?_)
  have P0d : Hid (PS m W q b ty w1.drew _ _) := P0.out.mv (below_drew1 w1)
  refine wpAnyH_take (i := 0) (v := ?_) (oi := { dst := some 4, op := _, type := _, pos := _, after := _, guard := none }) rfl (by kernel_rfl) (by kernel_rfl) (by kernel_rfl) (fun _ _ _ h => h) (Or.inl ⟨by kernel_rfl, ?_⟩) (by assumption) ?_
  case refine_2 => (intro w9 hSw; clear hSw; go_simp; try with_reducible rfl)
  simp only [Act.put, List.setIfInBounds_toArray, List.set_cons_zero, List.set_cons_succ]
  refine wpAnyH_take (i := 1) (v := ?_) (oi := { dst := some 5, op := _, type := _, pos := _, after := _, guard := none }) rfl (by kernel_rfl) (by kernel_rfl) (by kernel_rfl) (fun _ _ _ h => h) (Or.inl ⟨by kernel_rfl, ?_⟩) (by assumption) ?_
  case refine_2 => (intro w9 hSw; obtain ⟨z0, z1, z2, z3⟩ := PB.c hSw; go_simp; try with_reducible rfl)
  simp only [Act.put, List.setIfInBounds_toArray, List.set_cons_zero, List.set_cons_succ]
  refine wpAnyH_take (i := 2) (v := ?_) (oi := { dst := some 6, op := _, type := _, pos := _, after := _, guard := none }) rfl (by kernel_rfl) (by kernel_rfl) (by kernel_rfl) (fun _ _ _ h => h) (Or.inl ⟨by kernel_rfl, ?_⟩) (by assumption) ?_
  case refine_2 => (intro w9 hSw; clear hSw; go_simp; try with_reducible rfl)
  simp only [Act.put, List.setIfInBounds_toArray, List.set_cons_zero, List.set_cons_succ]
  refine wpAnyH_take (i := 3) (v := ?_) (oi := { dst := some 7, op := _, type := _, pos := _, after := _, guard := none }) rfl (by kernel_rfl) (by kernel_rfl) (by kernel_rfl) (fun _ _ _ h => h) (Or.inl ⟨by kernel_rfl, ?_⟩) (by assumption) ?_
  case refine_2 => (intro w9 hSw; clear hSw; go_simp; try with_reducible rfl)
  simp only [Act.put, List.setIfInBounds_toArray, List.set_cons_zero, List.set_cons_succ]
  refine wpAnyH_take (i := 4) (v := ?_) (oi := { dst := some 8, op := _, type := _, pos := _, after := _, guard := none }) rfl (by kernel_rfl) (by kernel_rfl) (by kernel_rfl) (fun _ _ _ h => h) (Or.inl ⟨by kernel_rfl, ?_⟩) (by assumption) ?_
  case refine_2 => (intro w9 hSw; clear hSw; go_simp; try with_reducible rfl)
  simp only [Act.put, List.setIfInBounds_toArray, List.set_cons_zero, List.set_cons_succ]
  refine wpAnyH_ready (rs := [5]) (by kernel_rfl) (by simp) (AllReadyH.cons (o := { dst := some 9, op := _, type := _, pos := _, after := _, guard := none }) rfl (fun K hK => ?_) AllReadyH.nil)
  go_simp
  refine (m.hN _ _ b (i + 1) _ ty off P0d.out.st K1 P0d.out.blk hb1 hb2 h5 hlw (hc1)).mono ?_
  rintro e v101 ⟨⟨r101, rfl⟩, hst, hblk, hk2⟩
  have P1 : Hid (PS m W q b ty v101 _ _) := ⟨hst, hblk, hk2.blk P0d.out.box hq1 hq2 (by decide), P0d.out.kt.trans hk2⟩
  refine hK.out _ _ P1.out.box (fun hHeld => ?_)
  clear hK K hHeld hst hblk hk2 P0 P0d
  refine wpAnyH_done (by kernel_rfl) ?_ _
  go_wp2_with fail
  refine wp_region_held_drew (S := PB q m.agg) (by kernel_rfl) (P1.out.mv (below_drew1 _)).box (fun hHeld => ?_)
  have P1d : Hid (PS m W q b ty v101.drew _ _) := P1.out.mv (below_drew1 v101)
  refine wpAnyH_take (i := 0) (v := ?_) (oi := { dst := some 10, op := _, type := _, pos := _, after := _, guard := none }) rfl (by kernel_rfl) (by kernel_rfl) (by kernel_rfl) (fun _ _ _ h => h) (Or.inl ⟨by kernel_rfl, ?_⟩) (by assumption) ?_
  case refine_2 => (intro w9 hSw; clear hSw; go_simp; try with_reducible rfl)
  simp only [Act.put, List.setIfInBounds_toArray, List.set_cons_zero, List.set_cons_succ]
  refine wpAnyH_take (i := 1) (v := ?_) (oi := { dst := some 11, op := _, type := _, pos := _, after := _, guard := none }) rfl (by kernel_rfl) (by kernel_rfl) (by kernel_rfl) (fun _ _ _ h => h) (Or.inl ⟨by kernel_rfl, ?_⟩) (by assumption) ?_
  case refine_2 => (intro w9 hSw; obtain ⟨z0, z1, z2, z3⟩ := PB.c hSw; go_simp; try with_reducible rfl)
  simp only [Act.put, List.setIfInBounds_toArray, List.set_cons_zero, List.set_cons_succ]
  refine wpAnyH_take (i := 2) (v := ?_) (oi := { dst := some 12, op := _, type := _, pos := _, after := _, guard := none }) rfl (by kernel_rfl) (by kernel_rfl) (by kernel_rfl) (fun _ _ _ h => h) (Or.inl ⟨by kernel_rfl, ?_⟩) (by assumption) ?_
  case refine_2 => (intro w9 hSw; clear hSw; go_simp; try with_reducible rfl)
  simp only [Act.put, List.setIfInBounds_toArray, List.set_cons_zero, List.set_cons_succ]
  refine wpAnyH_take (i := 3) (v := ?_) (oi := { dst := some 13, op := _, type := _, pos := _, after := _, guard := none }) rfl (by kernel_rfl) (by kernel_rfl) (by kernel_rfl) (fun _ _ _ h => h) (Or.inl ⟨by kernel_rfl, ?_⟩) (by assumption) ?_
  case refine_2 => (intro w9 hSw; clear hSw; go_simp; try with_reducible rfl)
  simp only [Act.put, List.setIfInBounds_toArray, List.set_cons_zero, List.set_cons_succ]
  refine wpAnyH_take (i := 4) (v := ?_) (oi := { dst := some 14, op := _, type := _, pos := _, after := _, guard := none }) rfl (by kernel_rfl) (by kernel_rfl) (by kernel_rfl) (fun _ _ _ h => h) (Or.inl ⟨by kernel_rfl, ?_⟩) (by assumption) ?_
  case refine_2 => (intro w9 hSw; clear hSw; go_simp; try with_reducible rfl)
  simp only [Act.put, List.setIfInBounds_toArray, List.set_cons_zero, List.set_cons_succ]
  refine wpAnyH_ready (rs := [5]) (by kernel_rfl) (by simp) (AllReadyH.cons (o := { dst := some 15, op := _, type := _, pos := _, after := _, guard := none }) rfl (fun K hK => ?_) AllReadyH.nil)
  go_simp
  refine (m.hF _ _ b (i + 2) _ ty dst P1d.out.st K2 P1d.out.blk hb1 hb2 h5 hlw (by simp [hc2])).mono ?_
  rintro e v102 ⟨⟨r102, rfl⟩, hst, hblk, hk2⟩
  have P2 : Hid (PS m W q b ty v102 _ _) := ⟨hst, hblk, hk2.blk P1d.out.box hq1 hq2 (by decide), P1d.out.kt.trans hk2⟩
  refine hK.out _ _ P2.out.box (fun hHeld => ?_)
  clear hK K hHeld hst hblk hk2 P1 P1d
  refine wpAnyH_done (by kernel_rfl) ?_ _
  go_wp2_with fail
  refine wp_region_held_drew (S := PB q m.agg) (by kernel_rfl) (P2.out.mv (below_drew1 _)).box (fun hHeld => ?_)
  have P2d : Hid (PS m W q b ty v102.drew _ _) := P2.out.mv (below_drew1 v102)
  refine wpAnyH_take (i := 0) (v := ?_) (oi := { dst := some 16, op := _, type := _, pos := _, after := _, guard := none }) rfl (by kernel_rfl) (by kernel_rfl) (by kernel_rfl) (fun _ _ _ h => h) (Or.inl ⟨by kernel_rfl, ?_⟩) (by assumption) ?_
  case refine_2 => (intro w9 hSw; clear hSw; go_simp; try with_reducible rfl)
  simp only [Act.put, List.setIfInBounds_toArray, List.set_cons_zero, List.set_cons_succ]
  refine wpAnyH_take (i := 1) (v := ?_) (oi := { dst := some 17, op := _, type := _, pos := _, after := _, guard := none }) rfl (by kernel_rfl) (by kernel_rfl) (by kernel_rfl) (fun _ _ _ h => h) (Or.inl ⟨by kernel_rfl, ?_⟩) (by assumption) ?_
  case refine_2 => (intro w9 hSw; obtain ⟨z0, z1, z2, z3⟩ := PB.c hSw; go_simp; try with_reducible rfl)
  simp only [Act.put, List.setIfInBounds_toArray, List.set_cons_zero, List.set_cons_succ]
  refine wpAnyH_take (i := 2) (v := ?_) (oi := { dst := some 18, op := _, type := _, pos := _, after := _, guard := none }) rfl (by kernel_rfl) (by kernel_rfl) (by kernel_rfl) (fun _ _ _ h => h) (Or.inl ⟨by kernel_rfl, ?_⟩) (by assumption) ?_
  case refine_2 => (intro w9 hSw; clear hSw; go_simp; try with_reducible rfl)
  simp only [Act.put, List.setIfInBounds_toArray, List.set_cons_zero, List.set_cons_succ]
  refine wpAnyH_take (i := 3) (v := ?_) (oi := { dst := some 19, op := _, type := _, pos := _, after := _, guard := none }) rfl (by kernel_rfl) (by kernel_rfl) (by kernel_rfl) (fun _ _ _ h => h) (Or.inl ⟨by kernel_rfl, ?_⟩) (by assumption) ?_
  case refine_2 => (intro w9 hSw; clear hSw; go_simp; try with_reducible rfl)
  simp only [Act.put, List.setIfInBounds_toArray, List.set_cons_zero, List.set_cons_succ]
  refine wpAnyH_take (i := 4) (v := ?_) (oi := { dst := some 20, op := _, type := _, pos := _, after := _, guard := none }) rfl (by kernel_rfl) (by kernel_rfl) (by kernel_rfl) (fun _ _ _ h => h) (Or.inl ⟨by kernel_rfl, ?_⟩) (by assumption) ?_
  case refine_2 => (intro w9 hSw; clear hSw; go_simp; try with_reducible rfl)
  simp only [Act.put, List.setIfInBounds_toArray, List.set_cons_zero, List.set_cons_succ]
  refine wpAnyH_ready (rs := [5]) (by kernel_rfl) (by simp) (AllReadyH.cons (o := { dst := some 21, op := _, type := _, pos := _, after := _, guard := none }) rfl (fun K hK => ?_) AllReadyH.nil)
  go_simp
  refine (m.hT _ _ b (i + 3) _ ty abbr P2d.out.st K3 P2d.out.blk hb1 hb2 h5 hlw (by simp [hc3])).mono ?_
  rintro e v103 ⟨⟨r103, rfl⟩, hst, hblk, hk2⟩
  have P3 : Hid (PS m W q b ty v103 _ _) := ⟨hst, hblk, hk2.blk P2d.out.box hq1 hq2 (by decide), P2d.out.kt.trans hk2⟩
  refine hK.out _ _ P3.out.box (fun hHeld => ?_)
  clear hK K hHeld hst hblk hk2 P2 P2d
  refine wpAnyH_done (by kernel_rfl) ?_ _
  go_wp2_with fail
  exact bodyPost_end (v := .tuple #[]) (by simp [results, Tryd.results28, go_sem]) rfl ⟨⟨_, rfl⟩, P3.out.st, P3.out.blk, P3.out.kt⟩

end Go.Proofs.YtcgcljfdfimfgaaDoor
