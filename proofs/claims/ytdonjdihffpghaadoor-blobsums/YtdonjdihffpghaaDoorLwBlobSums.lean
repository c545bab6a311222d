/- The statement BlobSums, walked: the sum of any bytes, by both. -/
import Derived.Test.YtdonjdihffpghaaDoorBlU
namespace Go.Proofs.YtdonjdihffpghaaDoor
open Go.RowKit Sr
set_option linter.unusedVariables false

theorem bytesA_form {W : World} {v : Value} {L : List UInt8} (h : BytesA W v L) : ∃ ao c, v = .slice ao L.length c ∧ RdB W ao L ∧ (ao = none → L = []) := by
  rcases h with ⟨rfl, rfl⟩ | ⟨a, c, rfl, _, _, hc⟩
  · exact ⟨none, 0, rfl, fun j x hj => by simp at hj, fun _ => rfl⟩
  · exact ⟨some a, c, rfl, fun j x hj => ⟨a, rfl, hc j x hj⟩, fun e => by cases e⟩
theorem RdB.mv {W W' : World} {ao : Option Addr} {L : List UInt8} (h : RdB W ao L) (k : Below W.heap.size W W') : RdB W' ao L := fun j x hj => by
  obtain ⟨ad, e, hc⟩ := h j x hj
  exact ⟨ad, e, (k.cell (p := ad.add j) (World.block_lt_of_cell? W _ hc)).trans hc⟩
theorem conv_rd {W : World} {ao : Option Addr} {L : List UInt8} {n c : Nat} (hn : L.length = n) (h : RdB W ao L) (h0 : ao = none → L = []) : (convert 22 9 (.slice ao n c)).run Tryd.prog W = .ok (.string ⟨L.toArray⟩) W := by
  subst hn
  cases ao with
  | none =>
    obtain rfl := h0 rfl
    rw [run_convert_bytes_string (P := Tryd.prog) W 22 9 5 none _ c Tryd.underlying22 Tryd.underlying5 Tryd.underlying9]
    kernel_rfl
  | some a =>
    refine run_convert_bytes_back (P := Tryd.prog) W 22 9 5 a c L Tryd.underlying22 Tryd.underlying5 Tryd.underlying9 (fun j hj => ?_)
    obtain ⟨ad, e, hc⟩ := h j _ (List.getElem?_eq_getElem hj)
    cases e
    exact hc
theorem rd_own {W : World} {g k : Nat} {cur : Array Value} {M : List UInt8} (hg : W.heap[g]? = some (.cells cur 5 (0, 0))) (h : cur.toList.take k = cellsB M) : RdB W (some ⟨g, 0, none⟩) M := fun j x hj => ⟨_, rfl, by
  rw [addr_add0, Nat.zero_add]
  have h1 := cellsB_get hj
  rw [← h, List.getElem?_take] at h1
  split at h1
  · exact cell_of hg (by simpa using h1)
  · cases h1⟩

set_option maxRecDepth 100000 in
set_option maxHeartbeats 4000000 in
theorem core_BlobSums (v : Value) (L : List UInt8) (w : World) (HA : Hid (BytesA w v L)) (hz : L.length ≤ 140737488351232) :
    Calls Tryd.prog 3 #[v] w fun e w' => e = .returned (.bool true) ∧ Below w.heap.size w w' := by
  have HL := lent_any v L w HA hz
  obtain ⟨ao, c, rfl, hrd, hnil⟩ := bytesA_form HA.out
  obtain ⟨n, hn⟩ : ∃ n, L.length = n := ⟨_, rfl⟩
  rw [hn] at HL hz ⊢
  have HRD : Hid (RdB w ao L) := hrd
  have HN : Hid (ao = none → L = []) := hnil
  clear HA hrd hnil
  go_enter Tryd.func3, Tryd.ntmps3
  go_wp2_with fail
  refine HL.mono ?_
  rintro e w1 ⟨g, cap, cur, rfl, hg, hc8, hcx, hcur, hb1⟩
  have hrd1 : RdB w1 ao L := HRD.out.mv hb1
  have hro8 : RdB w1 (some ⟨g, 0, none⟩) (L ++ a5L) := rd_own hg hcur
  have hro : RdB w1 (some ⟨g, 0, none⟩) L := fun j x hj => hro8 j x (by rw [List.getElem?_append_left (List.getElem?_eq_some_iff.1 hj).1]; exact hj)
  have S1 := sum_any (some ⟨g, 0, none⟩) L n cap hn (by unfold maxLen; omega) w1 hro
  have S2 := rsum_any ao L n c hn (by unfold maxLen; omega) w1 hrd1
  have KP := kept_core g cap n c ao ⟨L.toArray⟩ ⟨(L ++ a5L).toArray⟩ w1 hz hc8 hcx (by show L.toArray.size = n; simp [hn]) (fun w2 k => conv_rd hn (hro.mv k) (fun e => by cases e)) (fun w2 k => conv_rd hn (hrd1.mv k) HN.out)
    (fun w2 k => conv_rd (by rw [List.length_append, hn]; rfl) (hro8.mv k) (fun e => by cases e)) (by apply ByteArray.ext; simp [a5L])
  have HB1 : Hid (Below w.heap.size w w1) := hb1
  have KN : Hid (∀ w : World, Calls Tryd.prog 9 #[] w fun e w' => e = .returned (.bool true) ∧ Below w.heap.size w w') := bknown_any
  clear hb1 hrd1 hro8 hro hg hcur HL HRD HN
  generalize smB L = M at *
  go_wp2_with fail
  refine S1.mono ?_
  rintro e w' ⟨rfl, hw⟩
  obtain rfl := hw.symm
  clear hw S1
  go_wp2_with fail
  refine S2.mono ?_
  rintro e w' ⟨rfl, hw⟩
  obtain rfl := hw.symm
  clear hw S2
  go_wp2_with fail
  refine KP.mono ?_
  rintro e w2 ⟨rfl, hb2⟩
  have HB2 : Hid (Below w.heap.size w w2) := HB1.out.trans (hb2.mono HB1.out.size)
  clear hb2 HB1 KP
  go_wp2_with fail
  refine (KN.out _).mono ?_
  rintro e w3 ⟨rfl, hb3⟩
  have HB3 : Hid (Below w.heap.size w w3) := HB2.out.trans (hb3.mono HB2.out.size)
  clear hb3 HB2 KN
  go_wp2_with fail
  exact bodyPost_ret (v := .bool true) (by simp [results, Tryd.results3, go_sem]) rfl ⟨rfl, HB3.out⟩

end Go.Proofs.YtdonjdihffpghaaDoor
