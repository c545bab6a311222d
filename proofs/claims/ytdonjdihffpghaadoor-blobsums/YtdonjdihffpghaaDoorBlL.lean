/- Contract: the closure that Get hands to reader: so many bytes more. -/
import Derived.Test.YtdonjdihffpghaaDoorBlK
import Derived.Laws.CopyOwn
import Derived.Laws.OwnMore
namespace Go.Proofs.YtdonjdihffpghaaDoor
open Go.RowKit Sr
set_option linter.unusedVariables false

/-- the next N bytes, noughts behind the last. -/
def tkB (N : Nat) (σ : List UInt8) : List UInt8 := σ.take N ++ List.replicate (N - σ.length) 0
theorem tkB_len (N : Nat) (σ : List UInt8) : (tkB N σ).length = N := by simp [tkB]; omega
/-- what is left to read: a slice of bytes, in the box rb. -/
def RQ (rb : Nat) (W : World) (σ : List UInt8) : Prop := ∃ g o c, Boxed W rb 22 (.slice (some ⟨g, o, none⟩) σ.length c) ∧ σ.length < c ∧ c ≤ maxLen ∧
  ∃ cs fz, W.heap[g]? = some (.cells cs 5 fz) ∧ ∀ j x, σ[j]? = some x → cs[o + j]? = some (.int .u8 (x.toNat : Int))
/-- all blocks but rb lie as they lay. -/
def KB (rb : Nat) (W W' : World) : Prop := W.heap.size ≤ W'.heap.size ∧ ∀ k, k < W.heap.size → k ≠ rb → W'.heap[k]? = W.heap[k]?
theorem made_zero (N : Nat) : madeCells #[.int .u8 0] N = (cellsB (List.replicate N 0)).toArray := by
  rw [← Array.toList_inj, toList_madeCells_one]; simp [cellsB]
theorem make_bytes (N : Nat) (hN : N ≤ 100000) (w : World) : (Instr.makeSlice 22 (.int .i64 (N : Int)) (.int .i64 (N : Int))).run Tryd.prog w = .ok (.slice (some ⟨w.heap.size, 0, none⟩) N N) (w.alloc (.cells (cellsB (List.replicate N 0)).toArray 5)) := by
  obtain ⟨i0, hi, hz0, hz1, hz2⟩ := info_parts infoU8
  have := run_make (P := Tryd.prog) w 22 5 i0 (.int .u8 0) Tryd.underlying22 hi hz0 .i64 .i64 (N : Int) (N : Int) (by omega) (Int.le_refl _) (by rw [hz2]; omega) (by omega)
  rw [this, hz1]
  simp only [Int.toNat_natCast, Nat.mul_one]
  rw [← made_zero]
  rfl
theorem splice_take (N : Nat) (σ : List UInt8) : splice (cellsB (List.replicate N 0)) 0 (cellsB (σ.take N)) = cellsB (tkB N σ) := by
  simp only [splice, tkB, cellsB, List.map_append, List.map_replicate, List.length_map, List.length_take, List.take_zero, List.nil_append, Nat.zero_add, List.drop_replicate]
  congr 2
  omega
theorem bx_of_heap {W : World} {b : Nat} {l : List Value} {t : TypeId} (h : W.heap[b]? = some (.cells l.toArray t (0, 0))) : Bx W b l :=
  ⟨(Array.getElem?_eq_some_iff.1 h).1, fun i v e => ⟨cell_of h (by simpa using e), by simp [World.frozen?, h]⟩⟩
theorem take_end {rb : Nat} {W y : World} {σ : List UInt8} {N n k g o c pa : Nat} {cs : Array Value} {fz : Nat × Nat} (hn : σ.length = n) (hk : min n N = k) (hc1 : n < c) (hc2 : c ≤ maxLen) (HBX : Boxed W rb 22 (.slice (some ⟨g, o, none⟩) n c)) (HG : W.heap[g]? = some (.cells cs 5 fz))
    (HCS : ∀ j x, σ[j]? = some x → cs[o + j]? = some (.int .u8 (x.toNat : Int))) (HPA2 : y.heap[pa]? = some (.cells (cellsB (tkB N σ)).toArray 5 (0, 0))) (HB2 : Below W.heap.size W y) (hpa0 : W.heap.size = pa) :
    Bx (y.setCell ⟨rb, 0, none⟩ (.slice (some ⟨g, o + k, none⟩) (n - k) (c - k))) W.heap.size (cellsB (tkB N σ)) ∧ RQ rb (y.setCell ⟨rb, 0, none⟩ (.slice (some ⟨g, o + k, none⟩) (n - k) (c - k))) (σ.drop N) ∧ KB rb W (y.setCell ⟨rb, 0, none⟩ (.slice (some ⟨g, o + k, none⟩) (n - k) (c - k))) ∧
      W.os = (y.setCell ⟨rb, 0, none⟩ (.slice (some ⟨g, o + k, none⟩) (n - k) (c - k))).os ∧ W.output = (y.setCell ⟨rb, 0, none⟩ (.slice (some ⟨g, o + k, none⟩) (n - k) (c - k))).output ∧ W.tape = (y.setCell ⟨rb, 0, none⟩ (.slice (some ⟨g, o + k, none⟩) (n - k) (c - k))).tape := by
  have hrl := HBX.lt
  have hgl : g < W.heap.size := (Array.getElem?_eq_some_iff.1 HG).1
  have hgr : g ≠ rb := by
    rintro rfl
    rw [show W.heap[g]? = _ from HBX] at HG
    cases HG
  have hne : ∀ q, q ≠ rb → (y.setCell ⟨rb, 0, none⟩ (.slice (some ⟨g, o + k, none⟩) (n - k) (c - k))).heap[q]? = y.heap[q]? := fun q hq => Below.heap_setCell _ _ _ q (by simpa using hq)
  have hby : Boxed y rb 22 (.slice (some ⟨g, o, none⟩) n c) := (HB2.block rb hrl).trans HBX
  refine ⟨?_, ?_, ⟨?_, ?_⟩, HB2.os.symm, HB2.output.symm, HB2.tape.symm⟩
  · rw [hpa0]; exact bx_of_heap ((hne pa (by omega)).trans HPA2)
  · refine ⟨g, o + k, c - k, ?_, ?_, by omega, cs, fz, (hne g hgr).trans ((HB2.block g hgl).trans HG), ?_⟩
    · have := hby.set (.slice (some ⟨g, o + k, none⟩) (n - k) (c - k))
      rw [List.length_drop, hn, show n - N = n - k by omega]; exact this
    · rw [List.length_drop, hn]; omega
    · intro j x hj
      rw [List.getElem?_drop] at hj
      have hlt := (List.getElem?_eq_some_iff.1 hj).1
      rw [show o + k + j = o + (N + j) by omega]
      exact HCS _ x hj
  · have := HB2.size; simp; omega
  · intro q hq hqr; exact (hne q hqr).trans (HB2.block q hq)
theorem addr_add0 (g o j : Nat) : ((⟨g, o, none⟩ : Addr).add j) = ⟨g, o + j, none⟩ := by cases j <;> simp [Addr.add]

set_option maxRecDepth 100000 in
set_option maxHeartbeats 4000000 in
theorem take_any (rb : Nat) (W : World) (σ : List UInt8) (N : Nat) (hN : N ≤ 1000) (HR : Hid (RQ rb W σ)) :
    Calls Tryd.prog 26 #[.int .i64 (N : Int), .pointer (some ⟨rb, 0, none⟩)] W fun e W' => e = .returned (.slice (some ⟨W.heap.size, 0, none⟩) N N) ∧ Bx W' W.heap.size (cellsB (tkB N σ)) ∧ RQ rb W' (σ.drop N) ∧ KB rb W W' ∧ W.os = W'.os ∧ W.output = W'.output ∧ W.tape = W'.tape := by
  obtain ⟨g, o, c, hbx, hc1, hc2, cs, fz, hg, hcs⟩ := HR.out
  obtain ⟨n, hn⟩ : ∃ n, σ.length = n := ⟨_, rfl⟩
  rw [hn] at hbx hc1
  obtain ⟨k, hk⟩ : ∃ k, min n N = k := ⟨_, rfl⟩
  have hk1 : k ≤ n := by omega
  have hk2 : k < c := by omega
  have hm := make_bytes N (by omega) W
  obtain ⟨pa, hpa0⟩ : ∃ pa, W.heap.size = pa := ⟨_, rfl⟩
  have hrbl : rb < W.heap.size := hbx.lt
  have hgl : g < W.heap.size := (Array.getElem?_eq_some_iff.1 hg).1
  have HBX : Hid (Boxed W rb 22 (.slice (some ⟨g, o, none⟩) n c)) := hbx
  have HG : Hid (W.heap[g]? = some (.cells cs 5 fz)) := hg
  have HCS : Hid (∀ j x, σ[j]? = some x → cs[o + j]? = some (.int .u8 (x.toNat : Int))) := hcs
  have hcl : (cellsB (σ.take N)).length = Nat.min n N := by rw [cellsB_len, List.length_take, hn, Nat.min_comm]
  have hcl2 : (cellsB (σ.take N)).length = k := hcl.trans hk
  have hfit : 0 + (cellsB (σ.take N)).length ≤ (cellsB (List.replicate N 0)).length := by rw [hcl2, cellsB_len, List.length_replicate]; omega
  have hpa : W.heap.size ≤ pa := by omega
  have HS3 : Hid (∀ j u, (cellsB (σ.take N))[j]? = some u → W.cell? ((⟨g, o, none⟩ : Addr).add j) = some u) := by
    intro j u hu
    obtain ⟨x, hx, rfl⟩ : ∃ x, (σ.take N)[j]? = some x ∧ u = .int .u8 (x.toNat : Int) := by
      simp only [cellsB, List.getElem?_map, Option.map_eq_some_iff] at hu
      obtain ⟨x, hx, he⟩ := hu
      exact ⟨x, hx, he.symm⟩
    have hx' : σ[j]? = some x := by
      rw [List.getElem?_take] at hx
      split at hx
      · exact hx
      · cases hx
    rw [addr_add0]
    exact cell_of hg (hcs j x hx')
  clear hbx hg hcs HR
  go_enter Tryd.func26, Tryd.ntmps26
  go_upto_region 2 with fail
  have B1 : Below W.heap.size W (W.alloc (.cells (cellsB (List.replicate N 0)).toArray 5)) := (Below.refl _ _).alloc (Nat.le_refl _) _
  have P1 : (W.alloc (.cells (cellsB (List.replicate N 0)).toArray 5)).heap[pa]? = some (.cells (cellsB (List.replicate N 0)).toArray 5 (0, 0)) := by rw [← hpa0]; exact World.alloc_heap_new W _
  refine gen_code (fun V => Below W.heap.size W V ∧ V.heap[pa]? = some (.cells (cellsB (List.replicate N 0)).toArray 5 (0, 0))) ⟨B1, P1⟩ ?_
  clear B1 P1 hm
  rintro V ⟨BV, PV⟩
  have BV1 : Below W.heap.size W V.drew := BV.trans ((below_drew1 V).mono BV.size)
  have HBL : Hid (Below W.heap.size W V.drew) := BV1
  have HPA : Hid (V.drew.heap[pa]? = some (.cells (cellsB (List.replicate N 0)).toArray 5 (0, 0))) := PV
  have b1 : Boxed V.drew rb 22 (.slice (some ⟨g, o, none⟩) n c) := (BV1.block rb hrbl).trans HBX.out
  have q1 := b1.cell
  have HSRC : Hid (∀ j u, (cellsB (σ.take N))[j]? = some u → V.drew.cell? ((⟨g, o, none⟩ : Addr).add j) = some u) := fun j u hu => by
    have h := HS3.out j u hu
    rw [addr_add0] at h ⊢
    exact (BV1.cell (p := ⟨g, o + j, none⟩) hgl).trans h
  clear BV PV BV1 b1 HS3
  refine wp_region_held_drew (S := fun _ => True) (by kernel_rfl) trivial (fun hHeld => ?_)
  refine wpAnyH_take (i := 1) (v := ?_) (oi := { dst := some 8, op := _, type := _, pos := _, after := _, guard := none }) rfl (by kernel_rfl) (by kernel_rfl) (by kernel_rfl) (fun _ _ _ h => h) (Or.inl ⟨by kernel_rfl, ?_⟩) (by assumption) ?_
  case refine_2 => (intro w9 hSw; clear hSw; (go_simp); (try omega); try with_reducible rfl)
  simp only [Act.put, List.setIfInBounds_toArray, List.set_cons_zero, List.set_cons_succ]
  refine wpAnyH_ready (rs := [0, 2]) (by kernel_rfl) (by simp) (AllReadyH.cons (o := { dst := some 7, op := _, type := _, pos := _, after := _, guard := none }) rfl (fun K hK => ?_) (AllReadyH.cons (o := { dst := some 9, op := _, type := _, pos := _, after := _, guard := none }) rfl (fun K hK => ?_) AllReadyH.nil))
  ·
    go_simp
    refine hK.out _ _ trivial (fun _ => ?_)
    clear hK K
    refine wpAnyH_ready (rs := [2]) (by kernel_rfl) (by simp) (AllReadyH.cons (o := { dst := some 9, op := _, type := _, pos := _, after := _, guard := none }) rfl (fun K hK => ?_) AllReadyH.nil)
    go_simp
    refine hK.out _ _ trivial (fun _ => ?_)
    clear hK K
    refine wpAnyH_ready (rs := [3]) (by kernel_rfl) (by simp) (AllReadyH.cons (o := { dst := some 10, op := _, type := _, pos := _, after := _, guard := none }) rfl (fun K hK => ?_) AllReadyH.nil)
    refine step_copy_splice rfl _ _ 22 22 rfl 5 Tryd.underlying22 (by kernel_rfl) (some ⟨pa, 0, none⟩) (some ⟨g, o, none⟩) N N n c rfl rfl pa 0 (cellsB (List.replicate N 0)) 5 HPA.out (cellsB (σ.take N)) hcl (fun _ => ⟨rfl, _, rfl, HSRC.out⟩) hfit (cellsB_one _) W.heap.size W HBL.out hpa ?_
    intro y hy hby
    have HPA2 : Hid (y.heap[pa]? = some (.cells (cellsB (tkB N σ)).toArray 5 (0, 0))) := by have h := hy.out; rw [splice_take] at h; exact h
    have HB2 : Hid (Below W.heap.size W y) := hby
    have b2 : Boxed y rb 22 (.slice (some ⟨g, o, none⟩) n c) := (hby.block rb hrbl).trans HBX.out
    have q2 := b2.cell
    have f2 := b2.frozen
    refine hK.out _ _ trivial (fun _ => ?_)
    clear hK K hy hby
    refine wpAnyH_take (i := 4) (v := .slice (some ⟨g, o + k, none⟩) (n - k) (c - k)) (oi := { dst := some 11, op := _, type := _, pos := _, after := _, guard := none }) rfl (by kernel_rfl) (by kernel_rfl) (by kernel_rfl) (fun _ _ _ h => h) (Or.inl ⟨by kernel_rfl, ?_⟩) (by assumption) ?_
    case refine_1 => (intro w9 hSw; clear hSw; (go_simp); (try omega); try with_reducible rfl)
    simp only [Act.put, List.setIfInBounds_toArray, List.set_cons_zero, List.set_cons_succ]
    refine wpAnyH_ready (rs := [5]) (by kernel_rfl) (by simp) (AllReadyH.cons (o := { dst := none, op := _, type := _, pos := _, after := _, guard := none }) rfl (fun K hK => ?_) AllReadyH.nil)
    go_simp
    refine hK.out _ _ trivial (fun _ => ?_)
    clear hK K
    refine wpAnyH_done (by kernel_rfl) ?_ _
    have HF := take_end hn hk hc1 hc2 HBX.out HG.out HCS.out HPA2.out HB2.out hpa0
    clear HBX HG HCS HPA2 HB2
    go_wp2_with fail
    exact bodyPost_ret (v := .slice (some ⟨W.heap.size, 0, none⟩) N N) (by simp [results, Tryd.results26, go_sem, hpa0]) rfl ⟨rfl, HF⟩
  ·
    go_simp
    refine hK.out _ _ trivial (fun _ => ?_)
    clear hK K
    refine wpAnyH_ready (rs := [0, 3]) (by kernel_rfl) (by simp) (AllReadyH.cons (o := { dst := some 7, op := _, type := _, pos := _, after := _, guard := none }) rfl (fun K hK => ?_) (AllReadyH.cons (o := { dst := some 10, op := _, type := _, pos := _, after := _, guard := none }) rfl (fun K hK => ?_) AllReadyH.nil))
    ·
      go_simp
      refine hK.out _ _ trivial (fun _ => ?_)
      clear hK K
      refine wpAnyH_ready (rs := [3]) (by kernel_rfl) (by simp) (AllReadyH.cons (o := { dst := some 10, op := _, type := _, pos := _, after := _, guard := none }) rfl (fun K hK => ?_) AllReadyH.nil)
      refine step_copy_splice rfl _ _ 22 22 rfl 5 Tryd.underlying22 (by kernel_rfl) (some ⟨pa, 0, none⟩) (some ⟨g, o, none⟩) N N n c rfl rfl pa 0 (cellsB (List.replicate N 0)) 5 HPA.out (cellsB (σ.take N)) hcl (fun _ => ⟨rfl, _, rfl, HSRC.out⟩) hfit (cellsB_one _) W.heap.size W HBL.out hpa ?_
      intro y hy hby
      have HPA2 : Hid (y.heap[pa]? = some (.cells (cellsB (tkB N σ)).toArray 5 (0, 0))) := by have h := hy.out; rw [splice_take] at h; exact h
      have HB2 : Hid (Below W.heap.size W y) := hby
      have b2 : Boxed y rb 22 (.slice (some ⟨g, o, none⟩) n c) := (hby.block rb hrbl).trans HBX.out
      have q2 := b2.cell
      have f2 := b2.frozen
      refine hK.out _ _ trivial (fun _ => ?_)
      clear hK K hy hby
      refine wpAnyH_take (i := 4) (v := .slice (some ⟨g, o + k, none⟩) (n - k) (c - k)) (oi := { dst := some 11, op := _, type := _, pos := _, after := _, guard := none }) rfl (by kernel_rfl) (by kernel_rfl) (by kernel_rfl) (fun _ _ _ h => h) (Or.inl ⟨by kernel_rfl, ?_⟩) (by assumption) ?_
      case refine_1 => (intro w9 hSw; clear hSw; (go_simp); (try omega); try with_reducible rfl)
      simp only [Act.put, List.setIfInBounds_toArray, List.set_cons_zero, List.set_cons_succ]
      refine wpAnyH_ready (rs := [5]) (by kernel_rfl) (by simp) (AllReadyH.cons (o := { dst := none, op := _, type := _, pos := _, after := _, guard := none }) rfl (fun K hK => ?_) AllReadyH.nil)
      go_simp
      refine hK.out _ _ trivial (fun _ => ?_)
      clear hK K
      refine wpAnyH_done (by kernel_rfl) ?_ _
      have HF := take_end hn hk hc1 hc2 HBX.out HG.out HCS.out HPA2.out HB2.out hpa0
      clear HBX HG HCS HPA2 HB2
      go_wp2_with fail
      exact bodyPost_ret (v := .slice (some ⟨W.heap.size, 0, none⟩) N N) (by simp [results, Tryd.results26, go_sem, hpa0]) rfl ⟨rfl, HF⟩
    ·
      refine step_copy_splice rfl _ _ 22 22 rfl 5 Tryd.underlying22 (by kernel_rfl) (some ⟨pa, 0, none⟩) (some ⟨g, o, none⟩) N N n c rfl rfl pa 0 (cellsB (List.replicate N 0)) 5 HPA.out (cellsB (σ.take N)) hcl (fun _ => ⟨rfl, _, rfl, HSRC.out⟩) hfit (cellsB_one _) W.heap.size W HBL.out hpa ?_
      intro y hy hby
      have HPA2 : Hid (y.heap[pa]? = some (.cells (cellsB (tkB N σ)).toArray 5 (0, 0))) := by have h := hy.out; rw [splice_take] at h; exact h
      have HB2 : Hid (Below W.heap.size W y) := hby
      have b2 : Boxed y rb 22 (.slice (some ⟨g, o, none⟩) n c) := (hby.block rb hrbl).trans HBX.out
      have q2 := b2.cell
      have f2 := b2.frozen
      refine hK.out _ _ trivial (fun _ => ?_)
      clear hK K hy hby
      refine wpAnyH_ready (rs := [0]) (by kernel_rfl) (by simp) (AllReadyH.cons (o := { dst := some 7, op := _, type := _, pos := _, after := _, guard := none }) rfl (fun K hK => ?_) AllReadyH.nil)
      go_simp
      refine hK.out _ _ trivial (fun _ => ?_)
      clear hK K
      refine wpAnyH_take (i := 4) (v := .slice (some ⟨g, o + k, none⟩) (n - k) (c - k)) (oi := { dst := some 11, op := _, type := _, pos := _, after := _, guard := none }) rfl (by kernel_rfl) (by kernel_rfl) (by kernel_rfl) (fun _ _ _ h => h) (Or.inl ⟨by kernel_rfl, ?_⟩) (by assumption) ?_
      case refine_1 => (intro w9 hSw; clear hSw; (go_simp); (try omega); try with_reducible rfl)
      simp only [Act.put, List.setIfInBounds_toArray, List.set_cons_zero, List.set_cons_succ]
      refine wpAnyH_ready (rs := [5]) (by kernel_rfl) (by simp) (AllReadyH.cons (o := { dst := none, op := _, type := _, pos := _, after := _, guard := none }) rfl (fun K hK => ?_) AllReadyH.nil)
      go_simp
      refine hK.out _ _ trivial (fun _ => ?_)
      clear hK K
      refine wpAnyH_done (by kernel_rfl) ?_ _
      have HF := take_end hn hk hc1 hc2 HBX.out HG.out HCS.out HPA2.out HB2.out hpa0
      clear HBX HG HCS HPA2 HB2
      go_wp2_with fail
      exact bodyPost_ret (v := .slice (some ⟨W.heap.size, 0, none⟩) N N) (by simp [results, Tryd.results26, go_sem, hpa0]) rfl ⟨rfl, HF⟩

end Go.Proofs.YtdonjdihffpghaaDoor
