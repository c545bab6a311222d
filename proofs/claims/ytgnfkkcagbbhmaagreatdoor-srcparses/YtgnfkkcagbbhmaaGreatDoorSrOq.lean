/- Contract: src.readUntil of one to four fields. -/
import Derived.Test.YtgnfkkcagbbhmaaGreatDoorSrMq
import Derived.Laws.IdiomCopy
import Derived.Deep.DeepCutAuto
namespace Go.Proofs.YtgnfkkcagbbhmaaGreatDoor
open Go.RowKit Lin Sr
set_option linter.unusedVariables false

theorem gen_code {P : Program} {c : Code} {Q : Exit → Act → World → Prop} {a : Act} {w1 : World} (T : World → Prop) (h : T w1) (k : ∀ w2, T w2 → Code.wp P c Q a w2) : Code.wp P c Q a w1 := k _ h
/-- the fields, written over what stands where none is. -/
theorem copy_fill {W : World} {b : Nat} {fs : List ByteArray} {x0 x1 x2 x3 a c d e : ByteArray} (h : Bx W b [.string x0, .string x1, .string x2, .string x3]) (hf : fs.length ≤ 4) (hfill : fs ++ ([x0, x1, x2, x3] : List ByteArray).drop fs.length = [a, c, d, e]) :
    Bx (W.setCells b 0 (fs.map Value.string)) b [.string a, .string c, .string d, .string e] := by
  refine ⟨by rw [setCells_size]; exact h.1, fun i v hv => ?_⟩
  have hi : i < 4 := (List.getElem?_eq_some_iff.1 hv).1
  have hv' : ([a, c, d, e] : List ByteArray).map Value.string = [.string a, .string c, .string d, .string e] := rfl
  rw [← hv', ← hfill, List.map_append] at hv
  have ho := h.2 i _ (List.getElem?_eq_getElem (show i < [Value.string x0, .string x1, .string x2, .string x3].length by simpa using hi))
  refine ⟨?_, by rw [World.frozen?_setCells]; exact ho.2⟩
  by_cases hlt : i < fs.length
  · rw [List.getElem?_append_left (by simpa using hlt)] at hv
    have := World.cell?_setCells_in b (fs.map Value.string) 0 W (fun j hj => by
      have hj4 : j < 4 := by rw [List.length_map] at hj; omega
      have := (h.2 j _ (List.getElem?_eq_getElem (show j < [Value.string x0, .string x1, .string x2, .string x3].length by simpa using hj4))).1
      rw [Nat.zero_add, this]; rfl) i (by simpa using hlt)
    rw [Nat.zero_add] at this
    rw [this]
    exact (List.getElem?_eq_getElem (by simpa using hlt)).symm.trans hv
  · rw [List.getElem?_append_right (by simpa using Nat.le_of_not_lt hlt), List.length_map, List.map_drop, List.getElem?_drop, show fs.length + (i - fs.length) = i by omega] at hv
    rw [World.cell?_setCells_out b _ 0 W ⟨b, i, none⟩ (fun _ _ => .inr (by rw [List.length_map]; show 0 + fs.length ≤ i; omega))]
    rw [ho.1]
    exact (List.getElem?_eq_getElem (show i < [Value.string x0, .string x1, .string x2, .string x3].length by simpa using hi)).symm.trans hv

set_option maxRecDepth 100000 in
set_option maxHeartbeats 8000000 in
theorem readUntil_no (fs : List ByteArray) (a b c d : ByteArray) (y mo oa ob oc ta tz : Int) (b0 b1 b2 b3 : Bool) (rs : List Rdr) (hrs : Hid (rs = [⟨186, .agg #[], 169, a, 2, .int .i64 y, b0⟩, ⟨189, .agg #[], 180, b, 2, .int .i64 mo, b1⟩, ⟨190, .agg #[], 185, c, 82, .agg #[.int .i64 oa, .int .i64 ob, .int .i64 oc], b2⟩, ⟨191, .agg #[], 193, d, 83, .agg #[.int .i64 ta, .int .u8 tz], b3⟩])) (HK : Hid (∀ r ∈ rs, r.ok)) (hno : Hid (rdL rs [] = none))
    (hf1 : 1 ≤ fs.length) (hf4 : fs.length ≤ 4) (hfill : Hid (fs ++ ([⟨#[]⟩, ⟨#[74, 97, 110]⟩, ⟨#[49]⟩, ⟨#[48]⟩] : List ByteArray).drop fs.length = [a, b, c, d]))
    (g o cp : Nat) (w : World) (hg : g < w.heap.size) (hc : fs.length ≤ cp) (HF : Hid (∀ j x, fs[j]? = some x → w.cell? ⟨g, o + j, none⟩ = some (.string x))) :
    Calls Tryz.prog 111 #[.slice (some ⟨g, o, none⟩) fs.length cp] w fun e w' => e = .returned (.tuple #[.agg #[.int .i64 0, .int .i64 0, .int .i64 0, .int .i64 0, .int .i64 0, .int .i64 0, .int .u8 0], .bool false]) ∧ Below w.heap.size w w' := by
  have HN : Hid _ := hf1
  have h1 : ((fs.length : Int) == 0) = false := by rw [beq_eq_false_iff_ne]; omega
  have h0 : (fs.length : Int) ≠ 0 := by omega
  have h2 : ¬ (4 : Int) < (fs.length : Int) := by omega
  have hz0 : (0 : Int) ≤ (fs.length : Int) := by omega
  have hcc : Nat.min fs.length 4 = fs.length := Nat.min_eq_left hf4
  go_enter Tryz.func111, Tryz.ntmps111
  have B2 : Below w.heap.size w ((w.alloc (.cells #[.int .i64 0, .int .i64 0, .int .i64 0, .int .i64 0, .int .i64 0, .int .i64 0, .int .u8 0] 92)).alloc (.cells #[.string ⟨#[]⟩, .string ⟨#[74, 97, 110]⟩, .string ⟨#[49]⟩, .string ⟨#[48]⟩] 213)) := ((Below.refl _ w).alloc (Nat.le_refl _) _).alloc (by simp) _
  have X2 : Bx ((w.alloc (.cells #[.int .i64 0, .int .i64 0, .int .i64 0, .int .i64 0, .int .i64 0, .int .i64 0, .int .u8 0] 92)).alloc (.cells #[.string ⟨#[]⟩, .string ⟨#[74, 97, 110]⟩, .string ⟨#[49]⟩, .string ⟨#[48]⟩] 213)) (w.heap.size + 1) [.string ⟨#[]⟩, .string ⟨#[74, 97, 110]⟩, .string ⟨#[49]⟩, .string ⟨#[48]⟩] := Bx.newAt (w.alloc (.cells #[.int .i64 0, .int .i64 0, .int .i64 0, .int .i64 0, .int .i64 0, .int .i64 0, .int .u8 0] 92)) [.string ⟨#[]⟩, .string ⟨#[74, 97, 110]⟩, .string ⟨#[49]⟩, .string ⟨#[48]⟩] 213 (w.heap.size + 1) (by simp)
  have Z2 : Bx ((w.alloc (.cells #[.int .i64 0, .int .i64 0, .int .i64 0, .int .i64 0, .int .i64 0, .int .i64 0, .int .u8 0] 92)).alloc (.cells #[.string ⟨#[]⟩, .string ⟨#[74, 97, 110]⟩, .string ⟨#[49]⟩, .string ⟨#[48]⟩] 213)) w.heap.size [.int .i64 0, .int .i64 0, .int .i64 0, .int .i64 0, .int .i64 0, .int .i64 0, .int .u8 0] := (Bx.new w [.int .i64 0, .int .i64 0, .int .i64 0, .int .i64 0, .int .i64 0, .int .i64 0, .int .u8 0] 92).alloc _
  have HSRC : Hid (∀ j v, (fs.map Value.string)[j]? = some v → ((w.alloc (.cells #[.int .i64 0, .int .i64 0, .int .i64 0, .int .i64 0, .int .i64 0, .int .i64 0, .int .u8 0] 92)).alloc (.cells #[.string ⟨#[]⟩, .string ⟨#[74, 97, 110]⟩, .string ⟨#[49]⟩, .string ⟨#[48]⟩] 213)).cell? ((⟨g, o, none⟩ : Addr).add j) = some v) := fun j v hv => by
    rw [List.getElem?_map] at hv
    cases hx : fs[j]? with
    | none => rw [hx] at hv; cases hv
    | some x => rw [hx] at hv; cases hv; rw [Addr.add_lit]; exact (B2.cell (p := ⟨g, o + j, none⟩) hg).trans (HF.out j x hx)
  have HS2 : Hid (Below w.heap.size w ((w.alloc (.cells #[.int .i64 0, .int .i64 0, .int .i64 0, .int .i64 0, .int .i64 0, .int .i64 0, .int .u8 0] 92)).alloc (.cells #[.string ⟨#[]⟩, .string ⟨#[74, 97, 110]⟩, .string ⟨#[49]⟩, .string ⟨#[48]⟩] 213)) ∧ Bx ((w.alloc (.cells #[.int .i64 0, .int .i64 0, .int .i64 0, .int .i64 0, .int .i64 0, .int .i64 0, .int .u8 0] 92)).alloc (.cells #[.string ⟨#[]⟩, .string ⟨#[74, 97, 110]⟩, .string ⟨#[49]⟩, .string ⟨#[48]⟩] 213)) (w.heap.size + 1) [.string ⟨#[]⟩, .string ⟨#[74, 97, 110]⟩, .string ⟨#[49]⟩, .string ⟨#[48]⟩] ∧ Bx ((w.alloc (.cells #[.int .i64 0, .int .i64 0, .int .i64 0, .int .i64 0, .int .i64 0, .int .i64 0, .int .u8 0] 92)).alloc (.cells #[.string ⟨#[]⟩, .string ⟨#[74, 97, 110]⟩, .string ⟨#[49]⟩, .string ⟨#[48]⟩] 213)) w.heap.size [.int .i64 0, .int .i64 0, .int .i64 0, .int .i64 0, .int .i64 0, .int .i64 0, .int .u8 0]) := ⟨B2, X2, Z2⟩
  have HC1 : Hid (∀ j, j < (fs.map Value.string).length → (((w.alloc (.cells #[.int .i64 0, .int .i64 0, .int .i64 0, .int .i64 0, .int .i64 0, .int .i64 0, .int .u8 0] 92)).alloc (.cells #[.string ⟨#[]⟩, .string ⟨#[74, 97, 110]⟩, .string ⟨#[49]⟩, .string ⟨#[48]⟩] 213)).cell? ⟨w.heap.size + 1, 0 + j, none⟩).isSome = true) := fun j hj => by
    have hj4 : j < 4 := by rw [List.length_map] at hj; omega
    have := (X2.2 j _ (List.getElem?_eq_getElem (show j < ([.string ⟨#[]⟩, .string ⟨#[74, 97, 110]⟩, .string ⟨#[49]⟩, .string ⟨#[48]⟩] : List Value).length by simpa using hj4))).1
    rw [Nat.zero_add, this]; rfl
  have HC2 : Hid (∀ j, j < (fs.map Value.string).length → ((w.alloc (.cells #[.int .i64 0, .int .i64 0, .int .i64 0, .int .i64 0, .int .i64 0, .int .i64 0, .int .u8 0] 92)).alloc (.cells #[.string ⟨#[]⟩, .string ⟨#[74, 97, 110]⟩, .string ⟨#[49]⟩, .string ⟨#[48]⟩] 213)).frozen? ⟨w.heap.size + 1, 0 + j, none⟩ = false) := fun j hj => by
    have hj4 : j < 4 := by rw [List.length_map] at hj; omega
    rw [Nat.zero_add]
    exact (X2.2 j _ (List.getElem?_eq_getElem (show j < ([.string ⟨#[]⟩, .string ⟨#[74, 97, 110]⟩, .string ⟨#[49]⟩, .string ⟨#[48]⟩] : List Value).length by simpa using hj4))).2
  have HC3 : Hid (∀ v ∈ fs.map Value.string, v.oneCell' = true) := fun v hv => by
    obtain ⟨x, _, rfl⟩ := List.mem_map.1 hv; rfl
  clear B2 X2 Z2
  have hcp := run_copy_cells (P := Tryz.prog) ((w.alloc (.cells #[.int .i64 0, .int .i64 0, .int .i64 0, .int .i64 0, .int .i64 0, .int .i64 0, .int .u8 0] 92)).alloc (.cells #[.string ⟨#[]⟩, .string ⟨#[74, 97, 110]⟩, .string ⟨#[49]⟩, .string ⟨#[48]⟩] 213)) 52 52 3 9 (w.heap.size + 1) 0 4 4 ⟨g, o, none⟩ fs.length cp (fs.map Value.string) Tryz.underlying52 (by kernel_rfl) (by rw [List.length_map]; exact hcc.symm) HSRC.out HC1.out HC2.out HC3.out
  rw [List.length_map] at hcp
  go_upto_region 7 with fail
  refine gen_code (fun V => Below w.heap.size w V ∧ Bx V (w.heap.size + 1) [.string a, .string b, .string c, .string d] ∧ Bx V w.heap.size [.int .i64 0, .int .i64 0, .int .i64 0, .int .i64 0, .int .i64 0, .int .i64 0, .int .u8 0]) ⟨below_setCells (by omega) _ _ 0 HS2.out.1, copy_fill HS2.out.2.1 hf4 hfill.out, HS2.out.2.2.setOther (by omega) _⟩ ?_
  clear HS2 HSRC HF HC1 HC2 HC3 hcp
  rintro w2 ⟨B2, X2, Z2⟩
  have H2 : Hid (Below w.heap.size w w2 ∧ Bx w2 (w.heap.size + 1) [.string a, .string b, .string c, .string d] ∧ Bx w2 w.heap.size [.int .i64 0, .int .i64 0, .int .i64 0, .int .i64 0, .int .i64 0, .int .i64 0, .int .u8 0]) := ⟨B2, X2, Z2⟩
  have hs2 : w.heap.size + 1 < w2.heap.size := X2.1
  clear B2 X2 Z2
  go_wp2_with fail
  have hlen : rs.length = 4 := by rw [hrs.out]; rfl
  refine (readAll_any rs 4 hlen (w.heap.size + 1) 0 w2.heap.size 0 4 4 _ HK (by simp; omega) (by simp) (by decide) (fun j r hj => ?_) (fun j r hj => ?_) (Nat.le_refl _) (Nat.le_refl _)).mono ?_
  · have e1 := hrs.out
    subst e1
    have := (H2.out.2.1.alloc (.cells #[.iface 186 (.agg #[]), .iface 189 (.agg #[]), .iface 190 (.agg #[]), .iface 191 (.agg #[])] 175)).c j (v := .string r.f) (by
      match j, hj with
      | 0, hj => cases hj; rfl
      | 1, hj => cases hj; rfl
      | 2, hj => cases hj; rfl
      | 3, hj => cases hj; rfl)
    rw [Nat.zero_add]
    exact this
  · have e1 := hrs.out
    subst e1
    have := (Bx.new w2 (([⟨186, .agg #[], 169, a, 2, .int .i64 y, b0⟩, ⟨189, .agg #[], 180, b, 2, .int .i64 mo, b1⟩, ⟨190, .agg #[], 185, c, 82, .agg #[.int .i64 oa, .int .i64 ob, .int .i64 oc], b2⟩, ⟨191, .agg #[], 193, d, 83, .agg #[.int .i64 ta, .int .u8 tz], b3⟩] : List Rdr).map fun r => Value.iface r.T r.v) 175).c j (v := .iface r.T r.v) (by rw [List.getElem?_map, hj]; rfl)
    rw [Nat.zero_add]
    simpa using this
  rintro e w3 ⟨hb3, hR⟩
  rw [hno.out] at hR
  have hR' : e = .returned (.tuple #[.slice none 0 0, .bool false]) := hR
  subst hR'
  have X3 : Hid (Bx w3 w.heap.size [.int .i64 0, .int .i64 0, .int .i64 0, .int .i64 0, .int .i64 0, .int .i64 0, .int .u8 0]) := (H2.out.2.2.alloc (.cells #[.iface 186 (.agg #[]), .iface 189 (.agg #[]), .iface 190 (.agg #[]), .iface 191 (.agg #[])] 175)).below hb3
  have B3 : Hid (Below w.heap.size w w3) := (H2.out.1.alloc H2.out.1.size (.cells #[.iface 186 (.agg #[]), .iface 189 (.agg #[]), .iface 190 (.agg #[]), .iface 191 (.agg #[])] 175)).trans (hb3.mono (by have := H2.out.1.size; simp; omega))
  clear hb3 H2 hR HK hrs hno hlen
  go_wp2_with (refine wpList_store_mid rfl 92 _ _ rfl w.heap.size 0 #[.int .i64 0, .int .i64 0, .int .i64 0, .int .i64 0, .int .i64 0, .int .i64 0, .int .u8 0] rfl rfl X3.out.there (by kernel_rfl) zUntil_one ?_; refine gen_list (fun V => Bx V w.heap.size [.int .i64 0, .int .i64 0, .int .i64 0, .int .i64 0, .int .i64 0, .int .i64 0, .int .u8 0] ∧ Below w.heap.size w V) ⟨X3.out.setAll [.int .i64 0, .int .i64 0, .int .i64 0, .int .i64 0, .int .i64 0, .int .i64 0, .int .u8 0] rfl, below_setCells (Nat.le_refl _) [.int .i64 0, .int .i64 0, .int .i64 0, .int .i64 0, .int .i64 0, .int .i64 0, .int .u8 0] w3 0 B3.out⟩ ?_; clear X3 B3; rintro w4 ⟨X4, B4⟩)
  have y0 := X4.c 0 rfl
  have y1 := X4.c 1 rfl
  have y2 := X4.c 2 rfl
  have y3 := X4.c 3 rfl
  have y4 := X4.c 4 rfl
  have y5 := X4.c 5 rfl
  have y6 := X4.c 6 rfl
  have HB : Hid (Below w.heap.size w w4) := B4
  clear X4 B4
  refine bodyPost_ret (v := .tuple #[.agg #[.int .i64 0, .int .i64 0, .int .i64 0, .int .i64 0, .int .i64 0, .int .i64 0, .int .u8 0], .bool false]) (by simp [results, Tryz.results111, go_sem, y0, y1, y2, y3, y4, y5, y6]) rfl ⟨rfl, HB.out⟩

set_option maxRecDepth 100000 in
set_option maxHeartbeats 8000000 in
theorem readUntil_yes (fs : List ByteArray) (a b c d : ByteArray) (y mo oa ob oc ta tz : Int) (rs : List Rdr) (hrs : Hid (rs = [⟨186, .agg #[], 169, a, 2, .int .i64 y, true⟩, ⟨189, .agg #[], 180, b, 2, .int .i64 mo, true⟩, ⟨190, .agg #[], 185, c, 82, .agg #[.int .i64 oa, .int .i64 ob, .int .i64 oc], true⟩, ⟨191, .agg #[], 193, d, 83, .agg #[.int .i64 ta, .int .u8 tz], true⟩])) (HK : Hid (∀ r ∈ rs, r.ok)) 
    (hf1 : 1 ≤ fs.length) (hf4 : fs.length ≤ 4) (hfill : Hid (fs ++ ([⟨#[]⟩, ⟨#[74, 97, 110]⟩, ⟨#[49]⟩, ⟨#[48]⟩] : List ByteArray).drop fs.length = [a, b, c, d]))
    (g o cp : Nat) (w : World) (hg : g < w.heap.size) (hc : fs.length ≤ cp) (HF : Hid (∀ j x, fs[j]? = some x → w.cell? ⟨g, o + j, none⟩ = some (.string x))) :
    Calls Tryz.prog 111 #[.slice (some ⟨g, o, none⟩) fs.length cp] w fun e w' => e = .returned (.tuple #[.agg #[.int .i64 y, .int .i64 mo, .int .i64 oa, .int .i64 ob, .int .i64 oc, .int .i64 ta, .int .u8 tz], .bool true]) ∧ Below w.heap.size w w' := by
  have HN : Hid _ := hf1
  have h1 : ((fs.length : Int) == 0) = false := by rw [beq_eq_false_iff_ne]; omega
  have h0 : (fs.length : Int) ≠ 0 := by omega
  have h2 : ¬ (4 : Int) < (fs.length : Int) := by omega
  have hz0 : (0 : Int) ≤ (fs.length : Int) := by omega
  have hcc : Nat.min fs.length 4 = fs.length := Nat.min_eq_left hf4
  go_enter Tryz.func111, Tryz.ntmps111
  have B2 : Below w.heap.size w ((w.alloc (.cells #[.int .i64 0, .int .i64 0, .int .i64 0, .int .i64 0, .int .i64 0, .int .i64 0, .int .u8 0] 92)).alloc (.cells #[.string ⟨#[]⟩, .string ⟨#[74, 97, 110]⟩, .string ⟨#[49]⟩, .string ⟨#[48]⟩] 213)) := ((Below.refl _ w).alloc (Nat.le_refl _) _).alloc (by simp) _
  have X2 : Bx ((w.alloc (.cells #[.int .i64 0, .int .i64 0, .int .i64 0, .int .i64 0, .int .i64 0, .int .i64 0, .int .u8 0] 92)).alloc (.cells #[.string ⟨#[]⟩, .string ⟨#[74, 97, 110]⟩, .string ⟨#[49]⟩, .string ⟨#[48]⟩] 213)) (w.heap.size + 1) [.string ⟨#[]⟩, .string ⟨#[74, 97, 110]⟩, .string ⟨#[49]⟩, .string ⟨#[48]⟩] := Bx.newAt (w.alloc (.cells #[.int .i64 0, .int .i64 0, .int .i64 0, .int .i64 0, .int .i64 0, .int .i64 0, .int .u8 0] 92)) [.string ⟨#[]⟩, .string ⟨#[74, 97, 110]⟩, .string ⟨#[49]⟩, .string ⟨#[48]⟩] 213 (w.heap.size + 1) (by simp)
  have Z2 : Bx ((w.alloc (.cells #[.int .i64 0, .int .i64 0, .int .i64 0, .int .i64 0, .int .i64 0, .int .i64 0, .int .u8 0] 92)).alloc (.cells #[.string ⟨#[]⟩, .string ⟨#[74, 97, 110]⟩, .string ⟨#[49]⟩, .string ⟨#[48]⟩] 213)) w.heap.size [.int .i64 0, .int .i64 0, .int .i64 0, .int .i64 0, .int .i64 0, .int .i64 0, .int .u8 0] := (Bx.new w [.int .i64 0, .int .i64 0, .int .i64 0, .int .i64 0, .int .i64 0, .int .i64 0, .int .u8 0] 92).alloc _
  have HSRC : Hid (∀ j v, (fs.map Value.string)[j]? = some v → ((w.alloc (.cells #[.int .i64 0, .int .i64 0, .int .i64 0, .int .i64 0, .int .i64 0, .int .i64 0, .int .u8 0] 92)).alloc (.cells #[.string ⟨#[]⟩, .string ⟨#[74, 97, 110]⟩, .string ⟨#[49]⟩, .string ⟨#[48]⟩] 213)).cell? ((⟨g, o, none⟩ : Addr).add j) = some v) := fun j v hv => by
    rw [List.getElem?_map] at hv
    cases hx : fs[j]? with
    | none => rw [hx] at hv; cases hv
    | some x => rw [hx] at hv; cases hv; rw [Addr.add_lit]; exact (B2.cell (p := ⟨g, o + j, none⟩) hg).trans (HF.out j x hx)
  have HS2 : Hid (Below w.heap.size w ((w.alloc (.cells #[.int .i64 0, .int .i64 0, .int .i64 0, .int .i64 0, .int .i64 0, .int .i64 0, .int .u8 0] 92)).alloc (.cells #[.string ⟨#[]⟩, .string ⟨#[74, 97, 110]⟩, .string ⟨#[49]⟩, .string ⟨#[48]⟩] 213)) ∧ Bx ((w.alloc (.cells #[.int .i64 0, .int .i64 0, .int .i64 0, .int .i64 0, .int .i64 0, .int .i64 0, .int .u8 0] 92)).alloc (.cells #[.string ⟨#[]⟩, .string ⟨#[74, 97, 110]⟩, .string ⟨#[49]⟩, .string ⟨#[48]⟩] 213)) (w.heap.size + 1) [.string ⟨#[]⟩, .string ⟨#[74, 97, 110]⟩, .string ⟨#[49]⟩, .string ⟨#[48]⟩] ∧ Bx ((w.alloc (.cells #[.int .i64 0, .int .i64 0, .int .i64 0, .int .i64 0, .int .i64 0, .int .i64 0, .int .u8 0] 92)).alloc (.cells #[.string ⟨#[]⟩, .string ⟨#[74, 97, 110]⟩, .string ⟨#[49]⟩, .string ⟨#[48]⟩] 213)) w.heap.size [.int .i64 0, .int .i64 0, .int .i64 0, .int .i64 0, .int .i64 0, .int .i64 0, .int .u8 0]) := ⟨B2, X2, Z2⟩
  have HC1 : Hid (∀ j, j < (fs.map Value.string).length → (((w.alloc (.cells #[.int .i64 0, .int .i64 0, .int .i64 0, .int .i64 0, .int .i64 0, .int .i64 0, .int .u8 0] 92)).alloc (.cells #[.string ⟨#[]⟩, .string ⟨#[74, 97, 110]⟩, .string ⟨#[49]⟩, .string ⟨#[48]⟩] 213)).cell? ⟨w.heap.size + 1, 0 + j, none⟩).isSome = true) := fun j hj => by
    have hj4 : j < 4 := by rw [List.length_map] at hj; omega
    have := (X2.2 j _ (List.getElem?_eq_getElem (show j < ([.string ⟨#[]⟩, .string ⟨#[74, 97, 110]⟩, .string ⟨#[49]⟩, .string ⟨#[48]⟩] : List Value).length by simpa using hj4))).1
    rw [Nat.zero_add, this]; rfl
  have HC2 : Hid (∀ j, j < (fs.map Value.string).length → ((w.alloc (.cells #[.int .i64 0, .int .i64 0, .int .i64 0, .int .i64 0, .int .i64 0, .int .i64 0, .int .u8 0] 92)).alloc (.cells #[.string ⟨#[]⟩, .string ⟨#[74, 97, 110]⟩, .string ⟨#[49]⟩, .string ⟨#[48]⟩] 213)).frozen? ⟨w.heap.size + 1, 0 + j, none⟩ = false) := fun j hj => by
    have hj4 : j < 4 := by rw [List.length_map] at hj; omega
    rw [Nat.zero_add]
    exact (X2.2 j _ (List.getElem?_eq_getElem (show j < ([.string ⟨#[]⟩, .string ⟨#[74, 97, 110]⟩, .string ⟨#[49]⟩, .string ⟨#[48]⟩] : List Value).length by simpa using hj4))).2
  have HC3 : Hid (∀ v ∈ fs.map Value.string, v.oneCell' = true) := fun v hv => by
    obtain ⟨x, _, rfl⟩ := List.mem_map.1 hv; rfl
  clear B2 X2 Z2
  have hcp := run_copy_cells (P := Tryz.prog) ((w.alloc (.cells #[.int .i64 0, .int .i64 0, .int .i64 0, .int .i64 0, .int .i64 0, .int .i64 0, .int .u8 0] 92)).alloc (.cells #[.string ⟨#[]⟩, .string ⟨#[74, 97, 110]⟩, .string ⟨#[49]⟩, .string ⟨#[48]⟩] 213)) 52 52 3 9 (w.heap.size + 1) 0 4 4 ⟨g, o, none⟩ fs.length cp (fs.map Value.string) Tryz.underlying52 (by kernel_rfl) (by rw [List.length_map]; exact hcc.symm) HSRC.out HC1.out HC2.out HC3.out
  rw [List.length_map] at hcp
  go_upto_region 7 with fail
  refine gen_code (fun V => Below w.heap.size w V ∧ Bx V (w.heap.size + 1) [.string a, .string b, .string c, .string d] ∧ Bx V w.heap.size [.int .i64 0, .int .i64 0, .int .i64 0, .int .i64 0, .int .i64 0, .int .i64 0, .int .u8 0]) ⟨below_setCells (by omega) _ _ 0 HS2.out.1, copy_fill HS2.out.2.1 hf4 hfill.out, HS2.out.2.2.setOther (by omega) _⟩ ?_
  clear HS2 HSRC HF HC1 HC2 HC3 hcp
  rintro w2 ⟨B2, X2, Z2⟩
  have H2 : Hid (Below w.heap.size w w2 ∧ Bx w2 (w.heap.size + 1) [.string a, .string b, .string c, .string d] ∧ Bx w2 w.heap.size [.int .i64 0, .int .i64 0, .int .i64 0, .int .i64 0, .int .i64 0, .int .i64 0, .int .u8 0]) := ⟨B2, X2, Z2⟩
  have hs2 : w.heap.size + 1 < w2.heap.size := X2.1
  clear B2 X2 Z2
  go_wp2_with fail
  have hlen : rs.length = 4 := by rw [hrs.out]; rfl
  refine (readAll_any rs 4 hlen (w.heap.size + 1) 0 w2.heap.size 0 4 4 _ HK (by simp; omega) (by simp) (by decide) (fun j r hj => ?_) (fun j r hj => ?_) (Nat.le_refl _) (Nat.le_refl _)).mono ?_
  · have e1 := hrs.out
    subst e1
    have := (H2.out.2.1.alloc (.cells #[.iface 186 (.agg #[]), .iface 189 (.agg #[]), .iface 190 (.agg #[]), .iface 191 (.agg #[])] 175)).c j (v := .string r.f) (by
      match j, hj with
      | 0, hj => cases hj; rfl
      | 1, hj => cases hj; rfl
      | 2, hj => cases hj; rfl
      | 3, hj => cases hj; rfl)
    rw [Nat.zero_add]
    exact this
  · have e1 := hrs.out
    subst e1
    have := (Bx.new w2 (([⟨186, .agg #[], 169, a, 2, .int .i64 y, true⟩, ⟨189, .agg #[], 180, b, 2, .int .i64 mo, true⟩, ⟨190, .agg #[], 185, c, 82, .agg #[.int .i64 oa, .int .i64 ob, .int .i64 oc], true⟩, ⟨191, .agg #[], 193, d, 83, .agg #[.int .i64 ta, .int .u8 tz], true⟩] : List Rdr).map fun r => Value.iface r.T r.v) 175).c j (v := .iface r.T r.v) (by rw [List.getElem?_map, hj]; rfl)
    rw [Nat.zero_add]
    simpa using this
  rintro e w3 ⟨hb3, hR⟩
  have X3 : Hid (Bx w3 w.heap.size [.int .i64 0, .int .i64 0, .int .i64 0, .int .i64 0, .int .i64 0, .int .i64 0, .int .u8 0]) := (H2.out.2.2.alloc (.cells #[.iface 186 (.agg #[]), .iface 189 (.agg #[]), .iface 190 (.agg #[]), .iface 191 (.agg #[])] 175)).below hb3
  have B3 : Hid (Below w.heap.size w w3) := (H2.out.1.alloc H2.out.1.size (.cells #[.iface 186 (.agg #[]), .iface 189 (.agg #[]), .iface 190 (.agg #[]), .iface 191 (.agg #[])] 175)).trans (hb3.mono (by have := H2.out.1.size; simp; omega))
  have hL : rdL rs [] = some [.iface 2 (.int .i64 y), .iface 2 (.int .i64 mo), .iface 82 (.agg #[.int .i64 oa, .int .i64 ob, .int .i64 oc]), .iface 83 (.agg #[.int .i64 ta, .int .u8 tz])] := by rw [hrs.out]; rfl
  rw [hL] at hR
  clear hL
  obtain ⟨v, hv, hO⟩ := hR
  subst hv
  have hgw : ∀ r, v.ownBlock = some r → w.heap.size < r := fun r hr => by have := (hO.lt r hr).1; simp at this; omega
  obtain ⟨gb, cb, rfl, hgb, hcs⟩ := row_of_own 4 hO rfl (by decide)
  have hne : gb ≠ w.heap.size := by have := hgw gb rfl; omega
  have s0 := ta_int y
  have s1 := ta_int mo
  have s2 := ta_on oa ob oc
  have s3 := ta_at ta tz
  have S4 : Hid (LS w gb [.iface 2 (.int .i64 y), .iface 2 (.int .i64 mo), .iface 82 (.agg #[.int .i64 oa, .int .i64 ob, .int .i64 oc]), .iface 83 (.agg #[.int .i64 ta, .int .u8 tz])] 7 w3) := ⟨B3.out, hcs, _, rfl, X3.out⟩
  clear hcs hO hb3 B3 X3 H2 HK hrs hlen hgw
  go_wp2_with fail
  refine wp_region_held_drew (S := LS w gb [.iface 2 (.int .i64 y), .iface 2 (.int .i64 mo), .iface 82 (.agg #[.int .i64 oa, .int .i64 ob, .int .i64 oc]), .iface 83 (.agg #[.int .i64 ta, .int .u8 tz])] 7) (by kernel_rfl) S4.out.drew (fun hHeld => ?_)
  refine gen_any (LS w gb [.iface 2 (.int .i64 y), .iface 2 (.int .i64 mo), .iface 82 (.agg #[.int .i64 oa, .int .i64 ob, .int .i64 oc]), .iface 83 (.agg #[.int .i64 ta, .int .u8 tz])] 7) hHeld ?_
  clear hHeld S4
  rintro w5 hHeld
  refine wpAnyH_take (i := 0) (v := ?_) (oi := { dst := some 36, op := _, type := _, pos := _, after := _, guard := none }) rfl (by kernel_rfl) (by kernel_rfl) (by kernel_rfl) (fun _ _ _ h => h) (Or.inl ⟨by kernel_rfl, ?_⟩) (by assumption) ?_
  case refine_2 => (intro w9 hSw; clear hSw; go_simp; try with_reducible rfl)
  simp only [Act.put, List.setIfInBounds_toArray, List.set_cons_zero, List.set_cons_succ]
  refine wpAnyH_take (i := 1) (v := ?_) (oi := { dst := some 37, op := _, type := _, pos := _, after := _, guard := none }) rfl (by kernel_rfl) (by kernel_rfl) (by kernel_rfl) (fun _ _ _ h => h) (Or.inl ⟨by kernel_rfl, ?_⟩) (by assumption) ?_
  case refine_2 => (intro w9 hSw; clear hSw; go_simp; try with_reducible rfl)
  simp only [Act.put, List.setIfInBounds_toArray, List.set_cons_zero, List.set_cons_succ]
  refine wpAnyH_take (i := 2) (v := ?_) (oi := { dst := some 38, op := _, type := _, pos := _, after := _, guard := none }) rfl (by kernel_rfl) (by kernel_rfl) (by kernel_rfl) (fun _ _ _ h => h) (Or.inl ⟨by kernel_rfl, ?_⟩) (by assumption) ?_
  case refine_2 => (intro w9 hSw; obtain ⟨zb, zx, _⟩ := hSw; have q0 := zx 0 _ rfl; have q1 := zx 1 _ rfl; have q2 := zx 2 _ rfl; have q3 := zx 3 _ rfl; clear zx zb; go_simp; try with_reducible rfl)
  simp only [Act.put, List.setIfInBounds_toArray, List.set_cons_zero, List.set_cons_succ]
  refine wpAnyH_take (i := 3) (v := ?_) (oi := { dst := some 39, op := _, type := _, pos := _, after := _, guard := none }) rfl (by kernel_rfl) (by kernel_rfl) (by kernel_rfl) (fun _ _ _ h => h) (Or.inl ⟨by kernel_rfl, ?_⟩) (by assumption) ?_
  case refine_2 => (intro w9 hSw; clear hSw; go_simp; try with_reducible rfl)
  simp only [Act.put, List.setIfInBounds_toArray, List.set_cons_zero, List.set_cons_succ]
  refine wpAnyH_take (i := 4) (v := ?_) (oi := { dst := some 40, op := _, type := _, pos := _, after := _, guard := none }) rfl (by kernel_rfl) (by kernel_rfl) (by kernel_rfl) (fun _ _ _ h => h) (Or.inl ⟨by kernel_rfl, ?_⟩) (by assumption) ?_
  case refine_2 => (intro w9 hSw; clear hSw; go_simp; try with_reducible rfl)
  simp only [Act.put, List.setIfInBounds_toArray, List.set_cons_zero, List.set_cons_succ]
  refine wpAnyH_take (i := 5) (v := ?_) (oi := { dst := some 41, op := _, type := _, pos := _, after := _, guard := none }) rfl (by kernel_rfl) (by kernel_rfl) (by kernel_rfl) (fun _ _ _ h => h) (Or.inl ⟨by kernel_rfl, ?_⟩) (by assumption) ?_
  case refine_2 => (intro w9 hSw; clear hSw; go_simp; try with_reducible rfl)
  simp only [Act.put, List.setIfInBounds_toArray, List.set_cons_zero, List.set_cons_succ]
  refine wpAnyH_take (i := 6) (v := ?_) (oi := { dst := some 42, op := _, type := _, pos := _, after := _, guard := none }) rfl (by kernel_rfl) (by kernel_rfl) (by kernel_rfl) (fun _ _ _ h => h) (Or.inl ⟨by kernel_rfl, ?_⟩) (by assumption) ?_
  case refine_2 => (intro w9 hSw; obtain ⟨zb, zx, _⟩ := hSw; have q0 := zx 0 _ rfl; have q1 := zx 1 _ rfl; have q2 := zx 2 _ rfl; have q3 := zx 3 _ rfl; clear zx zb; go_simp; try with_reducible rfl)
  simp only [Act.put, List.setIfInBounds_toArray, List.set_cons_zero, List.set_cons_succ]
  refine wpAnyH_take (i := 7) (v := ?_) (oi := { dst := some 43, op := _, type := _, pos := _, after := _, guard := none }) rfl (by kernel_rfl) (by kernel_rfl) (by kernel_rfl) (fun _ _ _ h => h) (Or.inl ⟨by kernel_rfl, ?_⟩) (by assumption) ?_
  case refine_2 => (intro w9 hSw; clear hSw; go_simp; try with_reducible rfl)
  simp only [Act.put, List.setIfInBounds_toArray, List.set_cons_zero, List.set_cons_succ]
  refine wpAnyH_take (i := 8) (v := ?_) (oi := { dst := some 44, op := _, type := _, pos := _, after := _, guard := none }) rfl (by kernel_rfl) (by kernel_rfl) (by kernel_rfl) (fun _ _ _ h => h) (Or.inl ⟨by kernel_rfl, ?_⟩) (by assumption) ?_
  case refine_2 => (intro w9 hSw; clear hSw; go_simp; try with_reducible rfl)
  simp only [Act.put, List.setIfInBounds_toArray, List.set_cons_zero, List.set_cons_succ]
  refine wpAnyH_take (i := 9) (v := ?_) (oi := { dst := some 45, op := _, type := _, pos := _, after := _, guard := none }) rfl (by kernel_rfl) (by kernel_rfl) (by kernel_rfl) (fun _ _ _ h => h) (Or.inl ⟨by kernel_rfl, ?_⟩) (by assumption) ?_
  case refine_2 => (intro w9 hSw; clear hSw; go_simp; try with_reducible rfl)
  simp only [Act.put, List.setIfInBounds_toArray, List.set_cons_zero, List.set_cons_succ]
  refine wpAnyH_take (i := 10) (v := ?_) (oi := { dst := some 46, op := _, type := _, pos := _, after := _, guard := none }) rfl (by kernel_rfl) (by kernel_rfl) (by kernel_rfl) (fun _ _ _ h => h) (Or.inl ⟨by kernel_rfl, ?_⟩) (by assumption) ?_
  case refine_2 => (intro w9 hSw; obtain ⟨zb, zx, _⟩ := hSw; have q0 := zx 0 _ rfl; have q1 := zx 1 _ rfl; have q2 := zx 2 _ rfl; have q3 := zx 3 _ rfl; clear zx zb; go_simp; try with_reducible rfl)
  simp only [Act.put, List.setIfInBounds_toArray, List.set_cons_zero, List.set_cons_succ]
  refine wpAnyH_take (i := 11) (v := ?_) (oi := { dst := some 47, op := _, type := _, pos := _, after := _, guard := none }) rfl (by kernel_rfl) (by kernel_rfl) (by kernel_rfl) (fun _ _ _ h => h) (Or.inl ⟨by kernel_rfl, ?_⟩) (by assumption) ?_
  case refine_2 => (intro w9 hSw; clear hSw; go_simp; try with_reducible rfl)
  simp only [Act.put, List.setIfInBounds_toArray, List.set_cons_zero, List.set_cons_succ]
  refine wpAnyH_take (i := 12) (v := ?_) (oi := { dst := some 48, op := _, type := _, pos := _, after := _, guard := none }) rfl (by kernel_rfl) (by kernel_rfl) (by kernel_rfl) (fun _ _ _ h => h) (Or.inl ⟨by kernel_rfl, ?_⟩) (by assumption) ?_
  case refine_2 => (intro w9 hSw; clear hSw; go_simp; try with_reducible rfl)
  simp only [Act.put, List.setIfInBounds_toArray, List.set_cons_zero, List.set_cons_succ]
  refine wpAnyH_take (i := 13) (v := ?_) (oi := { dst := some 49, op := _, type := _, pos := _, after := _, guard := none }) rfl (by kernel_rfl) (by kernel_rfl) (by kernel_rfl) (fun _ _ _ h => h) (Or.inl ⟨by kernel_rfl, ?_⟩) (by assumption) ?_
  case refine_2 => (intro w9 hSw; clear hSw; go_simp; try with_reducible rfl)
  simp only [Act.put, List.setIfInBounds_toArray, List.set_cons_zero, List.set_cons_succ]
  refine wpAnyH_take (i := 14) (v := ?_) (oi := { dst := some 50, op := _, type := _, pos := _, after := _, guard := none }) rfl (by kernel_rfl) (by kernel_rfl) (by kernel_rfl) (fun _ _ _ h => h) (Or.inl ⟨by kernel_rfl, ?_⟩) (by assumption) ?_
  case refine_2 => (intro w9 hSw; obtain ⟨zb, zx, _⟩ := hSw; have q0 := zx 0 _ rfl; have q1 := zx 1 _ rfl; have q2 := zx 2 _ rfl; have q3 := zx 3 _ rfl; clear zx zb; go_simp; try with_reducible rfl)
  simp only [Act.put, List.setIfInBounds_toArray, List.set_cons_zero, List.set_cons_succ]
  refine wpAnyH_take (i := 15) (v := ?_) (oi := { dst := some 51, op := _, type := _, pos := _, after := _, guard := none }) rfl (by kernel_rfl) (by kernel_rfl) (by kernel_rfl) (fun _ _ _ h => h) (Or.inl ⟨by kernel_rfl, ?_⟩) (by assumption) ?_
  case refine_2 => (intro w9 hSw; clear hSw; go_simp; try with_reducible rfl)
  simp only [Act.put, List.setIfInBounds_toArray, List.set_cons_zero, List.set_cons_succ]
  refine wpAnyH_take (i := 16) (v := ?_) (oi := { dst := some 52, op := _, type := _, pos := _, after := _, guard := none }) rfl (by kernel_rfl) (by kernel_rfl) (by kernel_rfl) (fun _ _ _ h => h) (Or.inl ⟨by kernel_rfl, ?_⟩) (by assumption) ?_
  case refine_2 => (intro w9 hSw; clear hSw; go_simp; try with_reducible rfl)
  simp only [Act.put, List.setIfInBounds_toArray, List.set_cons_zero, List.set_cons_succ]
  refine wpAnyH_ready (rs := [17]) (by kernel_rfl) (by simp) (AllReadyH.cons (o := { dst := none, op := _, type := _, pos := _, after := _, guard := none }) rfl (fun K hK => ?_) AllReadyH.nil)
  obtain ⟨hB5, hX5, l5, hl5, hZ5⟩ := id hHeld
  have hT5 : w5.there w.heap.size 0 7 := by have := hZ5.there; rw [hl5] at this; exact this
  have P1 : Below w.heap.size w (w5.setCells w.heap.size 0 [.int .i64 y, .int .i64 mo, .int .i64 oa, .int .i64 ob, .int .i64 oc, .int .i64 ta, .int .u8 tz]) := below_setCells (Nat.le_refl _) [.int .i64 y, .int .i64 mo, .int .i64 oa, .int .i64 ob, .int .i64 oc, .int .i64 ta, .int .u8 tz] w5 0 hB5
  have P3 : Bx (w5.setCells w.heap.size 0 [.int .i64 y, .int .i64 mo, .int .i64 oa, .int .i64 ob, .int .i64 oc, .int .i64 ta, .int .u8 tz]) w.heap.size [.int .i64 y, .int .i64 mo, .int .i64 oa, .int .i64 ob, .int .i64 oc, .int .i64 ta, .int .u8 tz] := hZ5.setAll [.int .i64 y, .int .i64 mo, .int .i64 oa, .int .i64 ob, .int .i64 oc, .int .i64 ta, .int .u8 tz] hl5
  have P4 : LS w gb [.iface 2 (.int .i64 y), .iface 2 (.int .i64 mo), .iface 82 (.agg #[.int .i64 oa, .int .i64 ob, .int .i64 oc]), .iface 83 (.agg #[.int .i64 ta, .int .u8 tz])] 7 (w5.setCells w.heap.size 0 [.int .i64 y, .int .i64 mo, .int .i64 oa, .int .i64 ob, .int .i64 oc, .int .i64 ta, .int .u8 tz]) := ⟨P1, fun j x hj => (setCells_off _ _ _ _ _ hne).trans (hX5 j x hj), _, rfl, P3⟩
  refine (if_pos (by kernel_rfl)).mpr (wp_store_mid 92 _ _ rfl w.heap.size 0 #[.int .i64 y, .int .i64 mo, .int .i64 oa, .int .i64 ob, .int .i64 oc, .int .i64 ta, .int .u8 tz] rfl rfl hT5 (by kernel_rfl) (all_oneCell_toArray (cs := [.int .i64 y, .int .i64 mo, .int .i64 oa, .int .i64 ob, .int .i64 oc, .int .i64 ta, .int .u8 tz]) (by intro v hv; simp at hv; rcases hv with rfl | rfl | rfl | rfl | rfl | rfl | rfl <;> rfl)) ?_)
  refine hK.out _ (w5.setCells w.heap.size 0 [.int .i64 y, .int .i64 mo, .int .i64 oa, .int .i64 ob, .int .i64 oc, .int .i64 ta, .int .u8 tz]) P4 (fun _ => ?_)
  clear hK K
  have P5 : LS w gb [.iface 2 (.int .i64 y), .iface 2 (.int .i64 mo), .iface 82 (.agg #[.int .i64 oa, .int .i64 ob, .int .i64 oc]), .iface 83 (.agg #[.int .i64 ta, .int .u8 tz])] 7 (w5.setCells w.heap.size 0 [.int .i64 y, .int .i64 mo, .int .i64 oa, .int .i64 ob, .int .i64 oc, .int .i64 ta, .int .u8 tz]) ∧ Bx (w5.setCells w.heap.size 0 [.int .i64 y, .int .i64 mo, .int .i64 oa, .int .i64 ob, .int .i64 oc, .int .i64 ta, .int .u8 tz]) w.heap.size [.int .i64 y, .int .i64 mo, .int .i64 oa, .int .i64 ob, .int .i64 oc, .int .i64 ta, .int .u8 tz] ∧ Below w.heap.size w (w5.setCells w.heap.size 0 [.int .i64 y, .int .i64 mo, .int .i64 oa, .int .i64 ob, .int .i64 oc, .int .i64 ta, .int .u8 tz]) := ⟨P4, P3, P1⟩
  refine gen_any (w1 := w5.setCells w.heap.size 0 [.int .i64 y, .int .i64 mo, .int .i64 oa, .int .i64 ob, .int .i64 oc, .int .i64 ta, .int .u8 tz]) (fun V => LS w gb [.iface 2 (.int .i64 y), .iface 2 (.int .i64 mo), .iface 82 (.agg #[.int .i64 oa, .int .i64 ob, .int .i64 oc]), .iface 83 (.agg #[.int .i64 ta, .int .u8 tz])] 7 V ∧ Bx V w.heap.size [.int .i64 y, .int .i64 mo, .int .i64 oa, .int .i64 ob, .int .i64 oc, .int .i64 ta, .int .u8 tz] ∧ Below w.heap.size w V) P5 ?_
  clear hHeld hB5 hX5 hl5 hZ5 hT5 P1 P3 P4 P5
  rintro w6 ⟨hHeld, X6, B6⟩
  refine wpAnyH_take (i := 18) (v := ?_) (oi := { dst := some 3, op := _, type := _, pos := _, after := _, guard := none }) rfl (by kernel_rfl) (by kernel_rfl) (by kernel_rfl) (fun _ _ _ h => h) (Or.inl ⟨by kernel_rfl, ?_⟩) (by assumption) ?_
  case refine_2 => (intro w9 hSw; clear hSw; go_simp; try with_reducible rfl)
  simp only [Act.put, List.setIfInBounds_toArray, List.set_cons_zero, List.set_cons_succ]
  refine wpAnyH_done (by kernel_rfl) ?_ _
  have y0 := X6.c 0 rfl
  have y1 := X6.c 1 rfl
  have y2 := X6.c 2 rfl
  have y3 := X6.c 3 rfl
  have y4 := X6.c 4 rfl
  have y5 := X6.c 5 rfl
  have y6 := X6.c 6 rfl
  have HB : Hid (Below w.heap.size w w6) := B6
  clear X6 B6 hHeld
  go_wp2_with fail
  refine bodyPost_ret (v := .tuple #[.agg #[.int .i64 y, .int .i64 mo, .int .i64 oa, .int .i64 ob, .int .i64 oc, .int .i64 ta, .int .u8 tz], .bool true]) (by simp [results, Tryz.results111, go_sem, y0, y1, y2, y3, y4, y5, y6]) rfl ⟨rfl, HB.out⟩

end Go.Proofs.YtgnfkkcagbbhmaaGreatDoor
