import Derived.Test.YtcgcljfdfimfgaaDoorR3
import Derived.Laws.CopyOwn
import Derived.Laws.OwnMore
import Derived.Deep.RegionHeld3
/- Contract: the closure that Get hands to reader: so many bytes more. -/
namespace Go.Proofs.YtcgcljfdfimfgaaDoor
open Go.RowKit Sr
set_option linter.unusedVariables false

/-- the next N bytes, noughts behind the last. -/
def tkB (N : Nat) (σ : List UInt8) : List UInt8 := σ.take N ++ List.replicate (N - σ.length) 0
theorem tkB_len (N : Nat) (σ : List UInt8) : (tkB N σ).length = N := by simp [tkB]; omega
/-- what is left to read: a slice of bytes, in the box rb. -/
def RQ (rb : Nat) (W : World) (σ : List UInt8) : Prop := ∃ g o c, Boxed W rb 35 (.slice (some ⟨g, o, none⟩) σ.length c) ∧ σ.length < c ∧ c ≤ maxLen ∧
  ∃ cs fz, W.heap[g]? = some (.cells cs 5 fz) ∧ ∀ j x, σ[j]? = some x → cs[o + j]? = some (.int .u8 (x.toNat : Int))
/-- all blocks but rb lie as they lay. -/
def KB (rb : Nat) (W W' : World) : Prop := W.heap.size ≤ W'.heap.size ∧ ∀ k, k < W.heap.size → k ≠ rb → W'.heap[k]? = W.heap[k]?
theorem made_zero (N : Nat) : madeCells #[.int .u8 0] N = (cellsB (List.replicate N 0)).toArray := by
  rw [← Array.toList_inj, toList_madeCells_one]; simp [cellsB]
theorem make_bytes (N : Nat) (hN : N ≤ 100000) (w : World) : (Instr.makeSlice 35 (.int .i64 (N : Int)) (.int .i64 (N : Int))).run Tryd.prog w = .ok (.slice (some ⟨w.heap.size, 0, none⟩) N N) (w.alloc (.cells (cellsB (List.replicate N 0)).toArray 5)) := by
  obtain ⟨i0, hi, hz0, hz1, hz2⟩ := info_parts infoU8
  have := run_make (P := Tryd.prog) w 35 5 i0 (.int .u8 0) Tryd.underlying35 hi hz0 .i64 .i64 (N : Int) (N : Int) (by omega) (Int.le_refl _) (by rw [hz2]; omega) (by omega)
  rw [this, hz1]
  simp only [Int.toNat_natCast, Nat.mul_one]
  rw [← made_zero]
  rfl
theorem splice_take (N : Nat) (σ : List UInt8) : splice (cellsB (List.replicate N 0)) 0 (cellsB (σ.take N)) = cellsB (tkB N σ) := by
  simp only [splice, tkB, cellsB, List.map_append, List.map_replicate, List.length_map, List.length_take, List.take_zero, List.nil_append, Nat.zero_add, List.drop_replicate]
  congr 2
  omega
theorem bx_of_heap {W : World} {b : Nat} {l : List Value} {t : TypeId} (h : W.heap[b]? = some (.cells l.toArray t (0, 0))) : Bx W b l :=
  ⟨(Array.getElem?_eq_some_iff.1 h).1, fun i v e => ⟨cell_of h (by simpa using e), by simp [World.frozen?, h]⟩⟩
theorem take_end {rb : Nat} {W y : World} {σ : List UInt8} {N n k g o c pa : Nat} {cs : Array Value} {fz : Nat × Nat} (hn : σ.length = n) (hk : min n N = k) (hc1 : n < c) (hc2 : c ≤ maxLen) (HBX : Boxed W rb 35 (.slice (some ⟨g, o, none⟩) n c)) (HG : W.heap[g]? = some (.cells cs 5 fz))
    (HCS : ∀ j x, σ[j]? = some x → cs[o + j]? = some (.int .u8 (x.toNat : Int))) (HPA2 : y.heap[pa]? = some (.cells (cellsB (tkB N σ)).toArray 5 (0, 0))) (HB2 : Below W.heap.size W y) (hpa0 : W.heap.size = pa) :
    Bx (y.setCell ⟨rb, 0, none⟩ (.slice (some ⟨g, o + k, none⟩) (n - k) (c - k))) W.heap.size (cellsB (tkB N σ)) ∧ RQ rb (y.setCell ⟨rb, 0, none⟩ (.slice (some ⟨g, o + k, none⟩) (n - k) (c - k))) (σ.drop N) ∧ KB rb W (y.setCell ⟨rb, 0, none⟩ (.slice (some ⟨g, o + k, none⟩) (n - k) (c - k))) ∧
      W.os = (y.setCell ⟨rb, 0, none⟩ (.slice (some ⟨g, o + k, none⟩) (n - k) (c - k))).os ∧ W.output = (y.setCell ⟨rb, 0, none⟩ (.slice (some ⟨g, o + k, none⟩) (n - k) (c - k))).output ∧ W.tape = (y.setCell ⟨rb, 0, none⟩ (.slice (some ⟨g, o + k, none⟩) (n - k) (c - k))).tape := by
  have hrl := HBX.lt
  have hgl : g < W.heap.size := (Array.getElem?_eq_some_iff.1 HG).1
  have hgr : g ≠ rb := by
    rintro rfl
    rw [show W.heap[g]? = _ from HBX] at HG
    cases HG
  have hne : ∀ q, q ≠ rb → (y.setCell ⟨rb, 0, none⟩ (.slice (some ⟨g, o + k, none⟩) (n - k) (c - k))).heap[q]? = y.heap[q]? := fun q hq => Below.heap_setCell _ _ _ q (by simpa using hq)
  have hby : Boxed y rb 35 (.slice (some ⟨g, o, none⟩) n c) := (HB2.block rb hrl).trans HBX
  refine ⟨?_, ?_, ⟨?_, ?_⟩, HB2.os.symm, HB2.output.symm, HB2.tape.symm⟩
  · rw [hpa0]; exact bx_of_heap ((hne pa (by omega)).trans HPA2)
  · refine ⟨g, o + k, c - k, ?_, ?_, by omega, cs, fz, (hne g hgr).trans ((HB2.block g hgl).trans HG), ?_⟩
    · have := hby.set (.slice (some ⟨g, o + k, none⟩) (n - k) (c - k))
      rw [List.length_drop, hn, show n - N = n - k by omega]; exact this
    · rw [List.length_drop, hn]; omega
    · intro j x hj
      rw [List.getElem?_drop] at hj
      have hlt := (List.getElem?_eq_some_iff.1 hj).1
      rw [show o + k + j = o + (N + j) by omega]
      exact HCS _ x hj
  · have := HB2.size; simp; omega
  · intro q hq hqr; exact (hne q hqr).trans (HB2.block q hq)
theorem addr_add0 (g o j : Nat) : ((⟨g, o, none⟩ : Addr).add j) = ⟨g, o + j, none⟩ := by cases j <;> simp [Addr.add]

set_option maxRecDepth 100000 in
set_option maxHeartbeats 4000000 in
theorem take_any (rb : Nat) (W : World) (σ : List UInt8) (N : Nat) (hN : N ≤ 1000) (HR : Hid (RQ rb W σ)) :
    Calls Tryd.prog 22 #[.int .i64 (N : Int), .pointer (some ⟨rb, 0, none⟩)] W fun e W' => e = .returned (.slice (some ⟨W.heap.size, 0, none⟩) N N) ∧ Bx W' W.heap.size (cellsB (tkB N σ)) ∧ RQ rb W' (σ.drop N) ∧ KB rb W W' ∧ W.os = W'.os ∧ W.output = W'.output ∧ W.tape = W'.tape := by
  obtain ⟨g, o, c, hbx, hc1, hc2, cs, fz, hg, hcs⟩ := HR.out
  obtain ⟨n, hn⟩ : ∃ n, σ.length = n := ⟨_, rfl⟩
  rw [hn] at hbx hc1
  obtain ⟨k, hk⟩ : ∃ k, min n N = k := ⟨_, rfl⟩
  have hk1 : k ≤ n := by omega
  have hk2 : k < c := by omega
  have hm := make_bytes N (by omega) W
  obtain ⟨pa, hpa0⟩ : ∃ pa, W.heap.size = pa := ⟨_, rfl⟩
  have hrbl : rb < W.heap.size := hbx.lt
  have hgl : g < W.heap.size := (Array.getElem?_eq_some_iff.1 hg).1
  have HBX : Hid (Boxed W rb 35 (.slice (some ⟨g, o, none⟩) n c)) := hbx
  have HG : Hid (W.heap[g]? = some (.cells cs 5 fz)) := hg
  have HCS : Hid (∀ j x, σ[j]? = some x → cs[o + j]? = some (.int .u8 (x.toNat : Int))) := hcs
  have hcl : (cellsB (σ.take N)).length = Nat.min n N := by rw [cellsB_len, List.length_take, hn, Nat.min_comm]
  have hcl2 : (cellsB (σ.take N)).length = k := hcl.trans hk
  have hfit : 0 + (cellsB (σ.take N)).length ≤ (cellsB (List.replicate N 0)).length := by rw [hcl2, cellsB_len, List.length_replicate]; omega
  have hpa : W.heap.size ≤ pa := by omega
  have HS3 : Hid (∀ j u, (cellsB (σ.take N))[j]? = some u → W.cell? ((⟨g, o, none⟩ : Addr).add j) = some u) := by
    intro j u hu
    obtain ⟨x, hx, rfl⟩ : ∃ x, (σ.take N)[j]? = some x ∧ u = .int .u8 (x.toNat : Int) := by
      simp only [cellsB, List.getElem?_map, Option.map_eq_some_iff] at hu
      obtain ⟨x, hx, he⟩ := hu
      exact ⟨x, hx, he.symm⟩
    have hx' : σ[j]? = some x := by
      rw [List.getElem?_take] at hx
      split at hx
      · exact hx
      · cases hx
    rw [addr_add0]
    exact cell_of hg (hcs j x hx')
  clear hbx hg hcs HR
  go_enter Tryd.func22, Tryd.ntmps22
  go_upto_region 2 with fail
  have B1 : Below W.heap.size W (W.alloc (.cells (cellsB (List.replicate N 0)).toArray 5)) := (Below.refl _ _).alloc (Nat.le_refl _) _
  have P1 : (W.alloc (.cells (cellsB (List.replicate N 0)).toArray 5)).heap[pa]? = some (.cells (cellsB (List.replicate N 0)).toArray 5 (0, 0)) := by rw [← hpa0]; exact World.alloc_heap_new W _
  refine gen_code (fun V => Below W.heap.size W V ∧ V.heap[pa]? = some (.cells (cellsB (List.replicate N 0)).toArray 5 (0, 0))) ⟨B1, P1⟩ ?_
  clear B1 P1 hm
  rintro V ⟨BV, PV⟩
  have BV1 : Below W.heap.size W V.drew := BV.trans ((below_drew1 V).mono BV.size)
  have HBL : Hid (Below W.heap.size W V.drew) := BV1
  have HPA : Hid (V.drew.heap[pa]? = some (.cells (cellsB (List.replicate N 0)).toArray 5 (0, 0))) := PV
  have b1 : Boxed V.drew rb 35 (.slice (some ⟨g, o, none⟩) n c) := (BV1.block rb hrbl).trans HBX.out
  have q1 := b1.cell
  have HSRC : Hid (∀ j u, (cellsB (σ.take N))[j]? = some u → V.drew.cell? ((⟨g, o, none⟩ : Addr).add j) = some u) := fun j u hu => by
    have h := HS3.out j u hu
    rw [addr_add0] at h ⊢
    exact (BV1.cell (p := ⟨g, o + j, none⟩) hgl).trans h
  clear BV PV BV1 b1 HS3
  refine wp_region_held_drew (S := fun _ => True) (by kernel_rfl) trivial (fun hHeld => ?_)
  refine wpAnyH_take (i := 1) (v := ?_) (oi := { dst := some 8, op := _, type := _, pos := _, after := _, guard := none }) rfl (by kernel_rfl) (by kernel_rfl) (by kernel_rfl) (fun _ _ _ h => h) (Or.inl ⟨by kernel_rfl, ?_⟩) (by assumption) ?_
  case refine_2 => (intro w9 hSw; clear hSw; (go_simp); (try omega); try with_reducible rfl)
  simp only [Act.put, List.setIfInBounds_toArray, List.set_cons_zero, List.set_cons_succ]
  refine wpAnyH_ready (rs := [0, 2]) (by kernel_rfl) (by simp) (AllReadyH.cons (o := { dst := some 7, op := _, type := _, pos := _, after := _, guard := none }) rfl (fun K hK => ?_) (AllReadyH.cons (o := { dst := some 9, op := _, type := _, pos := _, after := _, guard := none }) rfl (fun K hK => ?_) AllReadyH.nil))
  ·
    go_simp
    refine hK.out _ _ trivial (fun _ => ?_)
    clear hK K
    refine wpAnyH_ready (rs := [2]) (by kernel_rfl) (by simp) (AllReadyH.cons (o := { dst := some 9, op := _, type := _, pos := _, after := _, guard := none }) rfl (fun K hK => ?_) AllReadyH.nil)
    go_simp
    refine hK.out _ _ trivial (fun _ => ?_)
    clear hK K
    refine wpAnyH_ready (rs := [3]) (by kernel_rfl) (by simp) (AllReadyH.cons (o := { dst := some 10, op := _, type := _, pos := _, after := _, guard := none }) rfl (fun K hK => ?_) AllReadyH.nil)
    refine step_copy_splice rfl _ _ 35 35 rfl 5 Tryd.underlying35 (by kernel_rfl) (some ⟨pa, 0, none⟩) (some ⟨g, o, none⟩) N N n c rfl rfl pa 0 (cellsB (List.replicate N 0)) 5 HPA.out (cellsB (σ.take N)) hcl (fun _ => ⟨rfl, _, rfl, HSRC.out⟩) hfit (cellsB_one _) W.heap.size W HBL.out hpa ?_
    intro y hy hby
    have HPA2 : Hid (y.heap[pa]? = some (.cells (cellsB (tkB N σ)).toArray 5 (0, 0))) := by have h := hy.out; rw [splice_take] at h; exact h
    have HB2 : Hid (Below W.heap.size W y) := hby
    have b2 : Boxed y rb 35 (.slice (some ⟨g, o, none⟩) n c) := (hby.block rb hrbl).trans HBX.out
    have q2 := b2.cell
    have f2 := b2.frozen
    refine hK.out _ _ trivial (fun _ => ?_)
    clear hK K hy hby
    refine wpAnyH_take (i := 4) (v := .slice (some ⟨g, o + k, none⟩) (n - k) (c - k)) (oi := { dst := some 11, op := _, type := _, pos := _, after := _, guard := none }) rfl (by kernel_rfl) (by kernel_rfl) (by kernel_rfl) (fun _ _ _ h => h) (Or.inl ⟨by kernel_rfl, ?_⟩) (by assumption) ?_
    case refine_1 => (intro w9 hSw; clear hSw; (go_simp); (try omega); try with_reducible rfl)
    simp only [Act.put, List.setIfInBounds_toArray, List.set_cons_zero, List.set_cons_succ]
    refine wpAnyH_ready (rs := [5]) (by kernel_rfl) (by simp) (AllReadyH.cons (o := { dst := none, op := _, type := _, pos := _, after := _, guard := none }) rfl (fun K hK => ?_) AllReadyH.nil)
    go_simp
    refine hK.out _ _ trivial (fun _ => ?_)
    clear hK K
    refine wpAnyH_done (by kernel_rfl) ?_ _
    have HF := take_end hn hk hc1 hc2 HBX.out HG.out HCS.out HPA2.out HB2.out hpa0
    clear HBX HG HCS HPA2 HB2
    go_wp2_with fail
    exact bodyPost_ret (v := .slice (some ⟨W.heap.size, 0, none⟩) N N) (by simp [results, Tryd.results22, go_sem, hpa0]) rfl ⟨rfl, HF⟩
  ·
    go_simp
    refine hK.out _ _ trivial (fun _ => ?_)
    clear hK K
    refine wpAnyH_ready (rs := [0, 3]) (by kernel_rfl) (by simp) (AllReadyH.cons (o := { dst := some 7, op := _, type := _, pos := _, after := _, guard := none }) rfl (fun K hK => ?_) (AllReadyH.cons (o := { dst := some 10, op := _, type := _, pos := _, after := _, guard := none }) rfl (fun K hK => ?_) AllReadyH.nil))
    ·
      go_simp
      refine hK.out _ _ trivial (fun _ => ?_)
      clear hK K
      refine wpAnyH_ready (rs := [3]) (by kernel_rfl) (by simp) (AllReadyH.cons (o := { dst := some 10, op := _, type := _, pos := _, after := _, guard := none }) rfl (fun K hK => ?_) AllReadyH.nil)
      refine step_copy_splice rfl _ _ 35 35 rfl 5 Tryd.underlying35 (by kernel_rfl) (some ⟨pa, 0, none⟩) (some ⟨g, o, none⟩) N N n c rfl rfl pa 0 (cellsB (List.replicate N 0)) 5 HPA.out (cellsB (σ.take N)) hcl (fun _ => ⟨rfl, _, rfl, HSRC.out⟩) hfit (cellsB_one _) W.heap.size W HBL.out hpa ?_
      intro y hy hby
      have HPA2 : Hid (y.heap[pa]? = some (.cells (cellsB (tkB N σ)).toArray 5 (0, 0))) := by have h := hy.out; rw [splice_take] at h; exact h
      have HB2 : Hid (Below W.heap.size W y) := hby
      have b2 : Boxed y rb 35 (.slice (some ⟨g, o, none⟩) n c) := (hby.block rb hrbl).trans HBX.out
      have q2 := b2.cell
      have f2 := b2.frozen
      refine hK.out _ _ trivial (fun _ => ?_)
      clear hK K hy hby
      refine wpAnyH_take (i := 4) (v := .slice (some ⟨g, o + k, none⟩) (n - k) (c - k)) (oi := { dst := some 11, op := _, type := _, pos := _, after := _, guard := none }) rfl (by kernel_rfl) (by kernel_rfl) (by kernel_rfl) (fun _ _ _ h => h) (Or.inl ⟨by kernel_rfl, ?_⟩) (by assumption) ?_
      case refine_1 => (intro w9 hSw; clear hSw; (go_simp); (try omega); try with_reducible rfl)
      simp only [Act.put, List.setIfInBounds_toArray, List.set_cons_zero, List.set_cons_succ]
      refine wpAnyH_ready (rs := [5]) (by kernel_rfl) (by simp) (AllReadyH.cons (o := { dst := none, op := _, type := _, pos := _, after := _, guard := none }) rfl (fun K hK => ?_) AllReadyH.nil)
      go_simp
      refine hK.out _ _ trivial (fun _ => ?_)
      clear hK K
      refine wpAnyH_done (by kernel_rfl) ?_ _
      have HF := take_end hn hk hc1 hc2 HBX.out HG.out HCS.out HPA2.out HB2.out hpa0
      clear HBX HG HCS HPA2 HB2
      go_wp2_with fail
      exact bodyPost_ret (v := .slice (some ⟨W.heap.size, 0, none⟩) N N) (by simp [results, Tryd.results22, go_sem, hpa0]) rfl ⟨rfl, HF⟩
    ·
      refine step_copy_splice rfl _ _ 35 35 rfl 5 Tryd.underlying35 (by kernel_rfl) (some ⟨pa, 0, none⟩) (some ⟨g, o, none⟩) N N n c rfl rfl pa 0 (cellsB (List.replicate N 0)) 5 HPA.out (cellsB (σ.take N)) hcl (fun _ => ⟨rfl, _, rfl, HSRC.out⟩) hfit (cellsB_one _) W.heap.size W HBL.out hpa ?_
      intro y hy hby
      have HPA2 : Hid (y.heap[pa]? = some (.cells (cellsB (tkB N σ)).toArray 5 (0, 0))) := by have h := hy.out; rw [splice_take] at h; exact h
      have HB2 : Hid (Below W.heap.size W y) := hby
      have b2 : Boxed y rb 35 (.slice (some ⟨g, o, none⟩) n c) := (hby.block rb hrbl).trans HBX.out
      have q2 := b2.cell
      have f2 := b2.frozen
      refine hK.out _ _ trivial (fun _ => ?_)
      clear hK K hy hby
      refine wpAnyH_ready (rs := [0]) (by kernel_rfl) (by simp) (AllReadyH.cons (o := { dst := some 7, op := _, type := _, pos := _, after := _, guard := none }) rfl (fun K hK => ?_) AllReadyH.nil)
      go_simp
      refine hK.out _ _ trivial (fun _ => ?_)
      clear hK K
      refine wpAnyH_take (i := 4) (v := .slice (some ⟨g, o + k, none⟩) (n - k) (c - k)) (oi := { dst := some 11, op := _, type := _, pos := _, after := _, guard := none }) rfl (by kernel_rfl) (by kernel_rfl) (by kernel_rfl) (fun _ _ _ h => h) (Or.inl ⟨by kernel_rfl, ?_⟩) (by assumption) ?_
      case refine_1 => (intro w9 hSw; clear hSw; (go_simp); (try omega); try with_reducible rfl)
      simp only [Act.put, List.setIfInBounds_toArray, List.set_cons_zero, List.set_cons_succ]
      refine wpAnyH_ready (rs := [5]) (by kernel_rfl) (by simp) (AllReadyH.cons (o := { dst := none, op := _, type := _, pos := _, after := _, guard := none }) rfl (fun K hK => ?_) AllReadyH.nil)
      go_simp
      refine hK.out _ _ trivial (fun _ => ?_)
      clear hK K
      refine wpAnyH_done (by kernel_rfl) ?_ _
      have HF := take_end hn hk hc1 hc2 HBX.out HG.out HCS.out HPA2.out HB2.out hpa0
      clear HBX HG HCS HPA2 HB2
      go_wp2_with fail
      exact bodyPost_ret (v := .slice (some ⟨W.heap.size, 0, none⟩) N N) (by simp [results, Tryd.results22, go_sem, hpa0]) rfl ⟨rfl, HF⟩

end Go.Proofs.YtcgcljfdfimfgaaDoor
/- Contracts: the closures of blob.reader: a byte, a flag, a number, a text out of bytes. -/
namespace Go.Proofs.YtcgcljfdfimfgaaDoor
open Go.RowKit Sr
set_option linter.unusedVariables false

abbrev takeF (rb : Nat) : Value := .func (.func 22) #[] #[.pointer (some ⟨rb, 0, none⟩)]
/-- what reading holds: what is left, behind a box, and the box of take. -/
structure RS (w0 : World) (rb pb : Nat) (W : World) (σ : List UInt8) : Prop where
  below : Below w0.heap.size w0 W
  hb : w0.heap.size ≤ rb
  q : RQ rb W σ
  tk : W.heap[pb]? = some (.cells #[takeF rb] 75 (0, 0))
  ne : pb ≠ rb
theorem setCell_heap {W : World} {b i : Nat} {cs : Array Value} {t : TypeId} {fz : Nat × Nat} (v : Value) (h : W.heap[b]? = some (.cells cs t fz)) : (W.setCell ⟨b, i, none⟩ v).heap[b]? = some (.cells (cs.setIfInBounds i v) t fz) := by
  obtain ⟨hlt, hk⟩ := Array.getElem?_eq_some_iff.1 h
  show (W.heap.modify b _)[b]? = _
  rw [Array.getElem?_eq_getElem (by rw [Array.size_modify]; exact hlt), Array.getElem_modify_self, hk]
  rfl
theorem RQ.mv {rb : Nat} {W W' : World} {σ : List UInt8} (h : RQ rb W σ) (h1 : W'.heap[rb]? = W.heap[rb]?) (h2 : ∀ (k : Nat) (cs : Array Value) (fz : Nat × Nat), W.heap[k]? = some (.cells cs 5 fz) → W'.heap[k]? = some (.cells cs 5 fz)) : RQ rb W' σ := by
  obtain ⟨g, o, c, hbx, hc1, hc2, cs, fz, hg, hcs⟩ := h
  exact ⟨g, o, c, h1.trans hbx, hc1, hc2, cs, fz, h2 g cs fz hg, hcs⟩
theorem RS.mv {w0 : World} {rb pb : Nat} {W W' : World} {σ : List UInt8} (h : RS w0 rb pb W σ) (k : Below W.heap.size W W') : RS w0 rb pb W' σ :=
  ⟨h.below.trans (k.mono h.below.size), h.hb, h.q.mv (k.block _ (by obtain ⟨g, o, c, hbx, _⟩ := h.q; exact hbx.lt)) (fun q cs fz hq => blk_below k hq), blk_below k h.tk, h.ne⟩
/-- behind take. -/
theorem RS.taken {w0 : World} {rb pb : Nat} {W W' : World} {σ : List UInt8} {N : Nat} (h : RS w0 rb pb W σ) (hq : RQ rb W' (σ.drop N)) (hk : KB rb W W') (e1 : W.os = W'.os) (e2 : W.output = W'.output) (e3 : W.tape = W'.tape) : RS w0 rb pb W' (σ.drop N) :=
  ⟨h.below.trans ⟨e1.symm, e3.symm, e2.symm, hk.1, fun k hk' => hk.2 k (Nat.lt_of_lt_of_le hk' h.below.size) (by have := h.hb; omega)⟩, h.hb, hq, (hk.2 pb (Array.getElem?_eq_some_iff.1 h.tk).1 h.ne).trans h.tk, h.ne⟩
theorem RS.set {w0 : World} {rb pb : Nat} {W : World} {σ : List UInt8} {b i : Nat} {cs : Array Value} {ty : TypeId} {fz : Nat × Nat} (v : Value) (h : RS w0 rb pb W σ) (hblk : W.heap[b]? = some (.cells cs ty fz)) (hlo : w0.heap.size ≤ b) (h1 : b ≠ rb) (h2 : b ≠ pb) (h5 : ty ≠ 5) : RS w0 rb pb (W.setCell ⟨b, i, none⟩ v) σ := by
  have hne : ∀ k, k ≠ b → (W.setCell ⟨b, i, none⟩ v).heap[k]? = W.heap[k]? := fun k hk => Below.heap_setCell _ _ _ k (by simpa using hk)
  refine ⟨h.below.setCell (p := ⟨b, i, none⟩) hlo v, h.hb, h.q.mv (hne _ (Ne.symm h1)) (fun k cs' fz' hk => (hne k ?_).trans hk), (hne _ (Ne.symm h2)).trans h.tk, h.ne⟩
  rintro rfl
  rw [hblk] at hk
  cases hk
  exact h5 rfl
theorem KB.blk {rb b : Nat} {W W' : World} {o : Obj} (h : KB rb W W') (hb : W.heap[b]? = some o) (hn : b ≠ rb) : W'.heap[b]? = some o := (h.2 b (Array.getElem?_eq_some_iff.1 hb).1 hn).trans hb
/-- a take, and a cell that is written. -/
theorem kt_wr {rb b i : Nat} {W W' : World} (v : Value) (h : KB rb W W') : KT2 rb b W (W'.setCell ⟨b, i, none⟩ v) :=
  ⟨by have := h.1; simp; omega, fun k o hk h1 h2 _ => (Below.heap_setCell _ _ _ k (by simpa using h2)).trans (h.blk hk h1)⟩
/-- what bytes tell as a number, from n on. -/
def rdN : List UInt8 → Int → Int
  | [], n => n
  | c :: l, n => rdN l (bits .or .i64 (wrap64 (n * 256)) (c.toNat : Int))
theorem rdN_drop {L : List UInt8} {j : Nat} {x : UInt8} (h : L[j]? = some x) (n : Int) : rdN (L.drop j) n = rdN (L.drop (j + 1)) (bits .or .i64 (wrap64 (n * 256)) (x.toNat : Int)) := by
  obtain ⟨hl, he⟩ := List.getElem?_eq_some_iff.1 h
  rw [List.drop_eq_getElem_cons hl, he, rdN]
theorem set_set {cs : Array Value} {i : Nat} (u v : Value) : (cs.setIfInBounds i u).setIfInBounds i v = cs.setIfInBounds i v := by
  apply Array.ext
  · simp
  · intro j h1 h2
    have h3 : j < cs.size := by simpa using h2
    by_cases e : i = j <;> simp [h3, e]
theorem kt_wr2 {rb b i : Nat} {W W' : World} (v : Value) (h : KT2 rb b W W') : KT2 rb b W (W'.setCell ⟨b, i, none⟩ v) :=
  ⟨by have := h.1; simp; omega, fun k o hk h1 h2 h5 => (Below.heap_setCell _ _ _ k (by simpa using h2)).trans (h.2 k o hk h1 h2 h5)⟩
theorem kt_kb {rb b : Nat} {W W' V : World} (h : KT2 rb b W W') (k : KB rb W' V) : KT2 rb b W V :=
  ⟨Nat.le_trans h.1 k.1, fun q o hq h1 h2 h5 => k.blk (h.2 q o hq h1 h2 h5) h1⟩
def TS (pb rb : Nat) (W : World) : Prop := W.cell? ⟨pb, 0, none⟩ = some (takeF rb)
theorem conv_bytes {W : World} {b n : Nat} {L : List UInt8} (hL : L.length = n) (h : Bx W b (cellsB L)) : (convert 35 9 (.slice (some ⟨b, 0, none⟩) n n)).run Tryd.prog W = .ok (.string ⟨L.toArray⟩) W := by
  subst hL
  exact run_convert_bytes_back (P := Tryd.prog) W 35 9 5 _ _ L Tryd.underlying35 Tryd.underlying5 Tryd.underlying9 (fun j hj => rd_bx h j _ (List.getElem?_eq_getElem hj))
/-- the first byte. -/
def hdB (σ : List UInt8) : UInt8 := σ.headD 0
theorem tkB_1 (σ : List UInt8) : tkB 1 σ = [hdB σ] := by cases σ <;> simp [tkB, hdB]
theorem fz_of {W : World} {b i : Nat} {cs : Array Value} {t : TypeId} (h : W.heap[b]? = some (.cells cs t (0, 0))) : W.frozen? ⟨b, i, none⟩ = false := by simp [World.frozen?, h]

set_option maxRecDepth 100000 in
set_option maxHeartbeats 4000000 in
theorem roct_any (w0 : World) (rb pb : Nat) (W : World) (σ : List UInt8) (HS : Hid (RS w0 rb pb W σ)) (b i : Nat) (cs : Array Value) (ty : TypeId) (u : Value) (hblk : Hid (W.heap[b]? = some (.cells cs ty (0, 0)))) (hlo : w0.heap.size ≤ b) (hb1 : b ≠ rb) (hb2 : b ≠ pb) (h5 : ty ≠ 5) (hi : cs[i]? = some u) :
    Calls Tryd.prog 37 #[.pointer (some ⟨b, i, none⟩), .pointer (some ⟨pb, 0, none⟩)] W fun e W' => (∃ v, e = .returned v) ∧ RS w0 rb pb W' (σ.drop 1) ∧ W'.heap[b]? = some (.cells (cs.setIfInBounds i (.int .u8 ((hdB σ).toNat : Int))) ty (0, 0)) ∧ KT2 rb b W W' := by
  have q1 := cell_of HS.out.tk (i := 0) rfl
  go_enter Tryd.func37, Tryd.ntmps37
  go_wp2_with fail
  refine (take_any rb W σ 1 (by decide) HS.out.q).mono ?_
  rintro e v1 ⟨rfl, hx, hq, hk, e1, e2, e3⟩
  rw [tkB_1] at hx
  have x0 := hx.c 0 rfl
  have hb' := hk.blk hblk.out hb1
  have c1 := cell_of hb' hi
  have f1 := fz_of (i := i) hb'
  have HS2 : Hid (RS w0 rb pb (v1.setCell ⟨b, i, none⟩ (.int .u8 ((hdB σ).toNat : Int))) (σ.drop 1)) := (HS.out.taken hq hk e1 e2 e3).set _ hb' hlo hb1 hb2 h5
  have HB2 : Hid ((v1.setCell ⟨b, i, none⟩ (.int .u8 ((hdB σ).toNat : Int))).heap[b]? = some (.cells (cs.setIfInBounds i (.int .u8 ((hdB σ).toNat : Int))) ty (0, 0))) := setCell_heap _ hb'
  have HK2 : Hid (KT2 rb b W (v1.setCell ⟨b, i, none⟩ (.int .u8 ((hdB σ).toNat : Int)))) := kt_wr _ hk
  clear hx hq hk e1 e2 e3 hb' HS hblk
  go_wp2_with fail
  exact bodyPost_end (v := .tuple #[]) (by simp [results, Tryd.results37, go_sem]) rfl ⟨⟨_, rfl⟩, HS2.out, HB2.out, HK2.out⟩

set_option maxRecDepth 100000 in
set_option maxHeartbeats 4000000 in
theorem rflag_any (w0 : World) (rb pb : Nat) (W : World) (σ : List UInt8) (HS : Hid (RS w0 rb pb W σ)) (b i : Nat) (cs : Array Value) (ty : TypeId) (u : Value) (hblk : Hid (W.heap[b]? = some (.cells cs ty (0, 0)))) (hlo : w0.heap.size ≤ b) (hb1 : b ≠ rb) (hb2 : b ≠ pb) (h5 : ty ≠ 5) (hi : cs[i]? = some u) :
    Calls Tryd.prog 38 #[.pointer (some ⟨b, i, none⟩), .pointer (some ⟨pb, 0, none⟩)] W fun e W' => (∃ v, e = .returned v) ∧ RS w0 rb pb W' (σ.drop 1) ∧ W'.heap[b]? = some (.cells (cs.setIfInBounds i (.bool (((hdB σ).toNat : Int) == 1))) ty (0, 0)) ∧ KT2 rb b W W' := by
  have q1 := cell_of HS.out.tk (i := 0) rfl
  go_enter Tryd.func38, Tryd.ntmps38
  go_wp2_with fail
  refine (take_any rb W σ 1 (by decide) HS.out.q).mono ?_
  rintro e v1 ⟨rfl, hx, hq, hk, e1, e2, e3⟩
  rw [tkB_1] at hx
  have x0 := hx.c 0 rfl
  have hb' := hk.blk hblk.out hb1
  have c1 := cell_of hb' hi
  have f1 := fz_of (i := i) hb'
  have HS2 : Hid (RS w0 rb pb (v1.setCell ⟨b, i, none⟩ (.bool (((hdB σ).toNat : Int) == 1))) (σ.drop 1)) := (HS.out.taken hq hk e1 e2 e3).set _ hb' hlo hb1 hb2 h5
  have HB2 : Hid ((v1.setCell ⟨b, i, none⟩ (.bool (((hdB σ).toNat : Int) == 1))).heap[b]? = some (.cells (cs.setIfInBounds i (.bool (((hdB σ).toNat : Int) == 1))) ty (0, 0))) := setCell_heap _ hb'
  have HK2 : Hid (KT2 rb b W (v1.setCell ⟨b, i, none⟩ (.bool (((hdB σ).toNat : Int) == 1)))) := kt_wr _ hk
  clear hx hq hk e1 e2 e3 hb' HS hblk
  go_wp2_with fail
  exact bodyPost_end (v := .tuple #[]) (by simp [results, Tryd.results38, go_sem]) rfl ⟨⟨_, rfl⟩, HS2.out, HB2.out, HK2.out⟩

set_option maxRecDepth 100000 in
set_option maxHeartbeats 4000000 in
theorem rnum_any (w0 : World) (rb pb : Nat) (W : World) (σ : List UInt8) (HS : Hid (RS w0 rb pb W σ)) (b i : Nat) (cs : Array Value) (ty : TypeId) (u : Value) (hblk : Hid (W.heap[b]? = some (.cells cs ty (0, 0)))) (hlo : w0.heap.size ≤ b) (hb1 : b ≠ rb) (hb2 : b ≠ pb) (h5 : ty ≠ 5) (hi : cs[i]? = some u) :
    Calls Tryd.prog 36 #[.pointer (some ⟨b, i, none⟩), .pointer (some ⟨pb, 0, none⟩)] W fun e W' => (∃ v, e = .returned v) ∧ RS w0 rb pb W' (σ.drop 8) ∧ W'.heap[b]? = some (.cells (cs.setIfInBounds i (.int .i64 (rdN (tkB 8 σ) 0))) ty (0, 0)) ∧ KT2 rb b W W' := by
  have hL8 : (tkB 8 σ).length = 8 := tkB_len 8 σ
  obtain ⟨L, hL⟩ : ∃ L, tkB 8 σ = L := ⟨_, rfl⟩
  obtain ⟨σ', hσ⟩ : ∃ σ', σ.drop 8 = σ' := ⟨_, rfl⟩
  obtain ⟨R, hR⟩ : ∃ R, rdN L 0 = R := ⟨_, rfl⟩
  rw [hL] at hL8
  rw [hL, hσ, hR]
  have HL : Hid (tkB 8 σ = L) := hL
  have HD : Hid (σ.drop 8 = σ') := hσ
  have HRR : Hid (rdN L 0 = R) := hR
  clear hL hσ hR
  have c0 := cell_of hblk.out hi
  have f0 := fz_of (i := i) hblk.out
  obtain ⟨V, hV⟩ : ∃ V, W.setCell ⟨b, i, none⟩ (.int .i64 0) = V := ⟨_, rfl⟩
  have HS1 : Hid (RS w0 rb pb V σ) := by rw [← hV]; exact HS.out.set _ hblk.out hlo hb1 hb2 h5
  have HB1 : Hid (V.heap[b]? = some (.cells (cs.setIfInBounds i (.int .i64 0)) ty (0, 0))) := by rw [← hV]; exact setCell_heap _ hblk.out
  have HK1 : Hid (KT2 rb b W V) := by rw [← hV]; exact kt_wr2 _ (KT2.refl _ _ _)
  have q1 := cell_of HS1.out.tk (i := 0) rfl
  have hil : i < cs.size := (Array.getElem?_eq_some_iff.1 hi).1
  clear hblk HS
  go_enter Tryd.func36, Tryd.ntmps36
  go_wp2_with fail
  refine (take_any rb V σ 8 (by decide) HS1.out.q).mono ?_
  rintro e v1 ⟨rfl, hx, hq, hk, e1, e2, e3⟩
  have HS2 : Hid (RS w0 rb pb v1 σ') := by have h := HS1.out.taken hq hk e1 e2 e3; rw [HD.out] at h; exact h
  have HB2 : Hid (v1.heap[b]? = some (.cells (cs.setIfInBounds i (.int .i64 0)) ty (0, 0))) := hk.blk HB1.out hb1
  have HK2 : Hid (KT2 rb b W v1) := kt_kb HK1.out hk
  obtain ⟨pa, hpa⟩ : ∃ pa, V.heap.size = pa := ⟨_, rfl⟩
  have hpb : pa ≠ b := by have := (Array.getElem?_eq_some_iff.1 HB1.out).1; omega
  rw [hpa] at hx
  rw [HL.out] at hx
  have HX : Hid (Bx v1 pa (cellsB L)) := hx
  clear hx hq hk e1 e2 e3 HS1 HB1 HK1 q1 c0 f0 hV
  go_wp2_with fail
  go_loopw [10] (fun iv wr => ∃ (j : Nat) (n : Int), j ≤ 8 ∧ iv = .int .i64 (j : Int) ∧ Hid (rdN (L.drop j) n = R) ∧ Hid (RS w0 rb pb wr σ') ∧ Hid (wr.heap[b]? = some (.cells (cs.setIfInBounds i (.int .i64 n)) ty (0, 0))) ∧ Hid (KT2 rb b W wr) ∧ Hid (Bx wr pa (cellsB L))) (fun iv _ => 8 - (intOf iv).toNat)
  case atStart => exact ⟨0, 0, by decide, rfl, HRR, HS2, HB2, HK2, HX⟩
  case round =>
    clear HS2 HB2 HK2 HX
    obtain ⟨j, n, hj, rfl, HR, HS2, HB2, HK2, HX⟩ := hrel
    by_cases hj8 : j < 8
    · obtain ⟨x, hx⟩ : ∃ x, L[j]? = some x := ⟨_, List.getElem?_eq_getElem (by omega)⟩
      have xc := HX.out.c j (cellsB_get hx)
      have c1 := cell_of HB2.out (i := i) (v := .int .i64 n) (by simp [hil])
      have f1 := fz_of (i := i) HB2.out
      have HR' : Hid (rdN (L.drop (j + 1)) (bits .or .i64 (wrap64 (n * 256)) (x.toNat : Int)) = R) := by have h := HR.out; rw [rdN_drop hx] at h; exact h
      have hx8 : x.toNat < 256 := x.toNat_lt
      obtain ⟨X, hX⟩ : ∃ X, x.toNat = X := ⟨_, rfl⟩
      rw [hX] at xc HR' hx8
      clear hX hx HR
      have HS3 : Hid (RS w0 rb pb (wr.setCell ⟨b, i, none⟩ (.int .i64 (bits .or .i64 (wrap64 (n * 256)) (X : Int)))) σ') := HS2.out.set _ HB2.out hlo hb1 hb2 h5
      have HB3 : Hid ((wr.setCell ⟨b, i, none⟩ (.int .i64 (bits .or .i64 (wrap64 (n * 256)) (X : Int)))).heap[b]? = some (.cells (cs.setIfInBounds i (.int .i64 (bits .or .i64 (wrap64 (n * 256)) (X : Int)))) ty (0, 0))) := by have h := setCell_heap (i := i) (.int .i64 (bits .or .i64 (wrap64 (n * 256)) (X : Int))) HB2.out; rw [set_set] at h; exact h
      have HK3 : Hid (KT2 rb b W (wr.setCell ⟨b, i, none⟩ (.int .i64 (bits .or .i64 (wrap64 (n * 256)) (X : Int))))) := kt_wr2 _ HK2.out
      have HX3 : Hid (Bx (wr.setCell ⟨b, i, none⟩ (.int .i64 (bits .or .i64 (wrap64 (n * 256)) (X : Int)))) pa (cellsB L)) := by
        have := HX.out.setOther hpb [.int .i64 (bits .or .i64 (wrap64 (n * 256)) (X : Int))] i
        exact this
      clear HS2 HB2 HK2 HX
      go_wp2_with fail
      exact ⟨⟨j + 1, _, by omega, by simp, HR', HS3, HB3, HK3, HX3⟩, by simp [intOf]; omega⟩
    · have hj9 : j = 8 := by omega
      subst hj9
      have HE : Hid (n = R) := by have h := HR.out; rw [List.drop_eq_nil_of_le (by omega)] at h; exact h
      go_wp2_with fail
      exact bodyPost_end (v := .tuple #[]) (by simp [results, Tryd.results36, go_sem]) rfl ⟨⟨_, rfl⟩, HS2.out, by rw [← HE.out]; exact HB2.out, HK2.out⟩

set_option maxRecDepth 100000 in
set_option maxHeartbeats 4000000 in
theorem rtext_any (w0 : World) (rb pb : Nat) (W : World) (σ : List UInt8) (HS : Hid (RS w0 rb pb W σ)) (b i : Nat) (cs : Array Value) (ty : TypeId) (u : Value) (hblk : Hid (W.heap[b]? = some (.cells cs ty (0, 0)))) (hlo : w0.heap.size ≤ b) (hb1 : b ≠ rb) (hb2 : b ≠ pb) (h5 : ty ≠ 5) (hi : cs[i]? = some u) :
    Calls Tryd.prog 39 #[.pointer (some ⟨b, i, none⟩), .pointer (some ⟨pb, 0, none⟩)] W fun e W' => (∃ v, e = .returned v) ∧ RS w0 rb pb W' ((σ.drop 1).drop (hdB σ).toNat) ∧ W'.heap[b]? = some (.cells (cs.setIfInBounds i (.string ⟨(tkB (hdB σ).toNat (σ.drop 1)).toArray⟩)) ty (0, 0)) ∧ KT2 rb b W W' := by
  have hn1 : (hdB σ).toNat < 256 := (hdB σ).toNat_lt
  obtain ⟨n0, hn0⟩ : ∃ n0, (hdB σ).toNat = n0 := ⟨_, rfl⟩
  rw [hn0] at hn1 ⊢
  obtain ⟨s1, hs1⟩ : ∃ s1, σ.drop 1 = s1 := ⟨_, rfl⟩
  rw [hs1]
  have HE1 : Hid (σ.drop 1 = s1) := hs1
  clear hs1
  have hwr : IntKind.i64.wrap (n0 : Int) = (n0 : Int) := by rw [IntKind.wrap_i64]; omega
  go_enter Tryd.func39, Tryd.ntmps39
  go_wp2_with fail
  refine wp_region_held_drew (S := TS pb rb) (by kernel_rfl) (show TS pb rb W.drew from cell_of HS.out.tk rfl) (fun hHeld => ?_)
  have HS1 : Hid (RS w0 rb pb W.drew σ) := HS.out.mv (below_drew1 _)
  have HB1 : Hid (W.drew.heap[b]? = some (.cells cs ty (0, 0))) := hblk.out
  have HK1 : Hid (KT2 rb b W W.drew) := KT2.of_below (below_drew1 _)
  obtain ⟨W1, hW1⟩ : ∃ W1, W.drew = W1 := ⟨_, rfl⟩
  rw [hW1] at HS1 HB1 HK1 hHeld ⊢
  clear hW1 HS hblk
  refine wpAnyH_take (i := 0) (v := ?_) (oi := { dst := some 3, op := _, type := _, pos := _, after := _, guard := none }) rfl (by kernel_rfl) (by kernel_rfl) (by kernel_rfl) (fun _ _ _ h => h) (Or.inl ⟨by kernel_rfl, ?_⟩) (by assumption) ?_
  case refine_2 => (intro w9 hSw; clear hSw; go_simp; try with_reducible rfl)
  simp only [Act.put, List.setIfInBounds_toArray, List.set_cons_zero, List.set_cons_succ]
  refine wpAnyH_take (i := 1) (v := ?_) (oi := { dst := some 4, op := _, type := _, pos := _, after := _, guard := none }) rfl (by kernel_rfl) (by kernel_rfl) (by kernel_rfl) (fun _ _ _ h => h) (Or.inl ⟨by kernel_rfl, ?_⟩) (by assumption) ?_
  case refine_2 => (intro w9 hSw; have z0 : w9.cell? ⟨pb, 0, none⟩ = some (takeF rb) := hSw; go_simp; try with_reducible rfl)
  simp only [Act.put, List.setIfInBounds_toArray, List.set_cons_zero, List.set_cons_succ]
  refine wpAnyH_take (i := 2) (v := ?_) (oi := { dst := some 5, op := _, type := _, pos := _, after := _, guard := none }) rfl (by kernel_rfl) (by kernel_rfl) (by kernel_rfl) (fun _ _ _ h => h) (Or.inl ⟨by kernel_rfl, ?_⟩) (by assumption) ?_
  case refine_2 => (intro w9 hSw; have z0 : w9.cell? ⟨pb, 0, none⟩ = some (takeF rb) := hSw; go_simp; try with_reducible rfl)
  simp only [Act.put, List.setIfInBounds_toArray, List.set_cons_zero, List.set_cons_succ]
  refine wpAnyH_ready (rs := [3]) (by kernel_rfl) (by simp) (AllReadyH.cons (o := { dst := some 6, op := _, type := _, pos := _, after := _, guard := none }) rfl (fun K hK => ?_) AllReadyH.nil)
  go_simp
  refine (take_any rb W1 σ 1 (by decide) HS1.out.q).mono ?_
  rintro e y1 ⟨rfl, hx, hq, hk, e1, e2, e3⟩
  rw [tkB_1] at hx
  have x0 : y1.cell? ⟨W1.heap.size, 0, none⟩ = some (.int .u8 ((hdB σ).toNat : Int)) := hx.c 0 rfl
  rw [hn0] at x0
  have HS2 : Hid (RS w0 rb pb y1 s1) := by have h := HS1.out.taken hq hk e1 e2 e3; rw [HE1.out] at h; exact h
  have HB2 : Hid (y1.heap[b]? = some (.cells cs ty (0, 0))) := hk.blk HB1.out hb1
  have HK2 : Hid (KT2 rb b W y1) := kt_kb HK1.out hk
  refine hK.out _ _ (show TS pb rb y1 from cell_of HS2.out.tk rfl) (fun hHeld => ?_)
  clear hK K hx hq hk e1 e2 e3 HS1 HB1 HK1
  refine wpAnyH_take (i := 4) (v := ?_) (oi := { dst := some 7, op := _, type := _, pos := _, after := _, guard := none }) rfl (by kernel_rfl) (by kernel_rfl) (by kernel_rfl) (fun _ _ _ h => h) (Or.inl ⟨by kernel_rfl, ?_⟩) (by assumption) ?_
  case refine_2 => (intro w9 hSw; clear hSw; go_simp; try with_reducible rfl)
  simp only [Act.put, List.setIfInBounds_toArray, List.set_cons_zero, List.set_cons_succ]
  refine wpAnyH_ready (rs := [5]) (by kernel_rfl) (by simp) (AllReadyH.cons (o := { dst := some 8, op := _, type := _, pos := _, after := _, guard := none }) rfl (fun K hK => ?_) AllReadyH.nil)
  go_simp
  refine hK.out _ _ hHeld (fun hHeld => ?_)
  clear hK K
  refine wpAnyH_take (i := 6) (v := ?_) (oi := { dst := some 9, op := _, type := _, pos := _, after := _, guard := none }) rfl (by kernel_rfl) (by kernel_rfl) (by kernel_rfl) (fun _ _ _ h => h) (Or.inl ⟨by kernel_rfl, ?_⟩) (by assumption) ?_
  case refine_2 => (intro w9 hSw; clear hSw; go_simp; try with_reducible rfl)
  simp only [Act.put, List.setIfInBounds_toArray, List.set_cons_zero, List.set_cons_succ]
  refine wpAnyH_ready (rs := [7]) (by kernel_rfl) (by simp) (AllReadyH.cons (o := { dst := some 10, op := _, type := _, pos := _, after := _, guard := none }) rfl (fun K hK => ?_) AllReadyH.nil)
  go_simp
  refine (take_any rb y1 s1 n0 (by omega) HS2.out.q).mono ?_
  rintro e y2 ⟨rfl, hx, hq, hk, e1, e2, e3⟩
  have HS3 : Hid (RS w0 rb pb y2 (s1.drop n0)) := HS2.out.taken hq hk e1 e2 e3
  have HB3 : Hid (y2.heap[b]? = some (.cells cs ty (0, 0))) := hk.blk HB2.out hb1
  have HK3 : Hid (KT2 rb b W y2) := kt_kb HK2.out hk
  have hcv := conv_bytes (n := n0) (tkB_len n0 s1) hx
  refine hK.out _ _ (show TS pb rb y2 from cell_of HS3.out.tk rfl) (fun hHeld => ?_)
  clear hK K hx hq hk e1 e2 e3 HS2 HB2 HK2 x0
  refine wpAnyH_ready (rs := [8]) (by kernel_rfl) (by simp) (AllReadyH.cons (o := { dst := some 11, op := _, type := _, pos := _, after := _, guard := none }) rfl (fun K hK => ?_) AllReadyH.nil)
  go_simp
  refine hK.out _ _ hHeld (fun hHeld => ?_)
  clear hK K hcv
  refine wpAnyH_take (i := 9) (v := ?_) (oi := { dst := some 12, op := _, type := _, pos := _, after := _, guard := none }) rfl (by kernel_rfl) (by kernel_rfl) (by kernel_rfl) (fun _ _ _ h => h) (Or.inl ⟨by kernel_rfl, ?_⟩) (by assumption) ?_
  case refine_2 => (intro w9 hSw; clear hSw; go_simp; try with_reducible rfl)
  simp only [Act.put, List.setIfInBounds_toArray, List.set_cons_zero, List.set_cons_succ]
  refine wpAnyH_ready (rs := [10]) (by kernel_rfl) (by simp) (AllReadyH.cons (o := { dst := none, op := _, type := _, pos := _, after := _, guard := none }) rfl (fun K hK => ?_) AllReadyH.nil)
  have c1 := cell_of HB3.out hi
  have f1 := fz_of (i := i) HB3.out
  have HS4 : Hid (RS w0 rb pb (y2.setCell ⟨b, i, none⟩ (.string ⟨(tkB n0 s1).toArray⟩)) (s1.drop n0)) := HS3.out.set _ HB3.out hlo hb1 hb2 h5
  have HB4 : Hid ((y2.setCell ⟨b, i, none⟩ (.string ⟨(tkB n0 s1).toArray⟩)).heap[b]? = some (.cells (cs.setIfInBounds i (.string ⟨(tkB n0 s1).toArray⟩)) ty (0, 0))) := setCell_heap _ HB3.out
  have HK4 : Hid (KT2 rb b W (y2.setCell ⟨b, i, none⟩ (.string ⟨(tkB n0 s1).toArray⟩))) := kt_wr2 _ HK3.out
  go_simp
  refine hK.out _ _ (show TS pb rb _ from cell_of HS4.out.tk rfl) (fun hHeld => ?_)
  clear hK K HS3 HB3 HK3 c1 f1
  refine wpAnyH_done (by kernel_rfl) ?_ _
  go_wp2_with fail
  exact bodyPost_end (v := .tuple #[]) (by simp [results, Tryd.results39, go_sem]) rfl ⟨⟨_, rfl⟩, HS4.out, HB4.out, HK4.out⟩

end Go.Proofs.YtcgcljfdfimfgaaDoor
/- The machine that reads; contract: blob.reader. -/
namespace Go.Proofs.YtcgcljfdfimfgaaDoor
open Go.RowKit Sr
set_option linter.unusedVariables false

/-- the closures that read. -/
def rPM (w0 : World) (rb pb : Nat) : PM rb pb where
  kN := 36
  kO := 37
  kF := 38
  kT := 39
  lo := w0.heap.size
  lw := w0.heap.size
  St W σ := RS w0 rb pb W σ
  ok σ := True
  num σ x := (σ.drop 8, rdN (tkB 8 σ) 0)
  oct σ x := (σ.drop 1, hdB σ)
  flag σ x := (σ.drop 1, ((hdB σ).toNat : Int) == 1)
  text σ s := ((σ.drop 1).drop (hdB σ).toNat, ⟨(tkB (hdB σ).toNat (σ.drop 1)).toArray⟩)
  hN W σ b i cs ty x hS hk hblk hb hb2 h5 hlw hi := rnum_any w0 rb pb W σ hS b i cs ty _ hblk hlw hb hb2 h5 hi
  hO W σ b i cs ty x hS hk hblk hb hb2 h5 hlw hi := roct_any w0 rb pb W σ hS b i cs ty _ hblk hlw hb hb2 h5 hi
  hF W σ b i cs ty x hS hk hblk hb hb2 h5 hlw hi := rflag_any w0 rb pb W σ hS b i cs ty _ hblk hlw hb hb2 h5 hi
  hT W σ b i cs ty x hS hk hblk hb hb2 h5 hlw hi := rtext_any w0 rb pb W σ hS b i cs ty _ hblk hlw hb hb2 h5 hi
  bN σ x h := trivial
  bO σ x h := trivial
  bF σ x h := trivial
  bT σ x h := trivial
  eN args w := by kernel_rfl
  eO args w := by kernel_rfl
  eF args w := by kernel_rfl
  eT args w := by kernel_rfl
  below W W' σ hS hb := hS.mv hb
  set W σ b i cs ty v hS hblk hlo hb hb2 h5 := hS.set v hblk hlo hb hb2 h5
  le W σ hS := hS.below.size
  ty W σ hS := by
    obtain ⟨g, o, c, hbx, _⟩ := hS.q
    refine ⟨fun cs fz e => ?_, fun cs fz e => ?_⟩
    · rw [show W.heap[rb]? = _ from hbx] at e; cases e
    · rw [hS.tk] at e; cases e
  grow W W' σ row hS hg hr := by
    have hne : ∀ k, k < W.heap.size → (row = some k → False) → W'.heap[k]? = W.heap[k]? := fun k hk h => hg.block k hk (fun e => h e.symm)
    refine ⟨Below.grown hS.below hg hS.below.size (fun k hk => (hr k hk).1), hS.hb, hS.q.mv (hne _ (by obtain ⟨g, o, c, hbx, _⟩ := hS.q; exact hbx.lt) (fun e => (hr rb e).2.1 rfl)) (fun k cs fz hk => (hne k (Array.getElem?_eq_some_iff.1 hk).1 (fun e => ?_)).trans hk), (hne _ (Array.getElem?_eq_some_iff.1 hS.tk).1 (fun e => (hr pb e).2.2.1 rfl)).trans hS.tk, hS.ne⟩
    obtain ⟨_, _, _, cs2, ty2, fz2, h7, h6⟩ := hr k e
    rw [h7] at hk
    cases hk
    exact h6 rfl
  lt W σ hS := ⟨by obtain ⟨g, o, c, hbx, _⟩ := hS.q; exact hbx.lt, (Array.getElem?_eq_some_iff.1 hS.tk).1⟩

set_option maxRecDepth 100000 in
set_option maxHeartbeats 4000000 in
theorem reader_any (rb : Nat) (w : World) :
    Calls Tryd.prog 21 #[takeF rb] w fun e w' => e = .returned (.agg #[clo 36 w.heap.size, clo 37 w.heap.size, clo 38 w.heap.size, clo 39 w.heap.size]) ∧ Below w.heap.size w w' ∧ w'.heap[w.heap.size]? = some (.cells #[takeF rb] 75 (0, 0)) := by
  obtain ⟨W2, hW2⟩ : ∃ W2, (w.alloc (.cells #[takeF rb] 75)).alloc (.cells #[.nilFunc, .nilFunc, .nilFunc, .nilFunc] 63) = W2 := ⟨_, rfl⟩
  have X1 : Hid (Bx W2 (w.heap.size + 1) [.nilFunc, .nilFunc, .nilFunc, .nilFunc]) := by rw [← hW2]; exact Bx.newAt (w.alloc (.cells #[takeF rb] 75)) [.nilFunc, .nilFunc, .nilFunc, .nilFunc] 63 (w.heap.size + 1) (by simp)
  have B1 : Hid (Below w.heap.size w W2) := by rw [← hW2]; exact ((Below.refl _ _).alloc (Nat.le_refl _) _).alloc (by simp) _
  have Y1 : Hid (W2.heap[w.heap.size]? = some (.cells #[takeF rb] 75 (0, 0))) := by rw [← hW2]; exact (Below.heap_alloc _ _ _ (by simp)).trans (World.alloc_heap_new w _)
  go_enter Tryd.func21, Tryd.ntmps21
  go_wp2_with (refine wpList_store_mid rfl 63 _ _ rfl (w.heap.size + 1) 0 #[clo 36 w.heap.size, clo 37 w.heap.size, clo 38 w.heap.size, clo 39 w.heap.size] rfl rfl X1.out.there (by kernel_rfl) (all_oneCell_toArray (cs := [clo 36 w.heap.size, clo 37 w.heap.size, clo 38 w.heap.size, clo 39 w.heap.size]) (by intro v hv; simp at hv; rcases hv with rfl | rfl | rfl | rfl <;> rfl)) ?_; refine gen_list (fun V => Bx V (w.heap.size + 1) [clo 36 w.heap.size, clo 37 w.heap.size, clo 38 w.heap.size, clo 39 w.heap.size] ∧ Below w.heap.size w V ∧ V.heap[w.heap.size]? = some (.cells #[takeF rb] 75 (0, 0))) ⟨X1.out.setAll [clo 36 w.heap.size, clo 37 w.heap.size, clo 38 w.heap.size, clo 39 w.heap.size] rfl, below_setCells (by omega) _ _ _ B1.out, (setCells_heap (by omega) _ _ _).trans Y1.out⟩ ?_; clear X1 B1 Y1; rintro V ⟨XV, BV, YV⟩)
  exact bodyPost_ret (v := .agg #[clo 36 w.heap.size, clo 37 w.heap.size, clo 38 w.heap.size, clo 39 w.heap.size]) (results_cell1' rfl _ _ _ _ rfl (run_loadVar_mid _ _ _ _ [clo 36 w.heap.size, clo 37 w.heap.size, clo 38 w.heap.size, clo 39 w.heap.size] _ XV.all Tryd.underlying63 rfl (by kernel_rfl))) rfl ⟨rfl, BV, YV⟩


end Go.Proofs.YtcgcljfdfimfgaaDoor
