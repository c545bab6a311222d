/- Contract: src.readRule. -/
import Derived.Test.YtgnfkkcagbbhmaaGreatDoorSrKq
namespace Go.Proofs.YtgnfkkcagbbhmaaGreatDoor
open Go.RowKit Lin Sr
set_option linter.unusedVariables false

/-- the nine rows of a rule. -/
abbrev ruleRs (f0 f1 f2 f3 f4 f5 f6 f7 f8 : ByteArray) (y t mo oa ob oc ta tz U : Int) (lt : ByteArray) (b0 b1 b2 b3 b4 b5 b6 b7 b8 : Bool) : List Rdr :=
  [⟨185, .agg #[], 168, f0, 9, .string f0, b0⟩,
   ⟨186, .agg #[], 169, f1, 2, .int .i64 y, b1⟩,
   ⟨187, .agg #[], 178, f2, 2, .int .i64 t, b2⟩,
   ⟨188, .agg #[], 179, f3, 9, .string f3, b3⟩,
   ⟨189, .agg #[], 180, f4, 2, .int .i64 mo, b4⟩,
   ⟨190, .agg #[], 185, f5, 82, .agg #[.int .i64 oa, .int .i64 ob, .int .i64 oc], b5⟩,
   ⟨191, .agg #[], 193, f6, 83, .agg #[.int .i64 ta, .int .u8 tz], b6⟩,
   ⟨212, .agg #[.int .i64 0, .int .i64 7200], 205, f7, 2, .int .i64 U, b7⟩,
   ⟨192, .agg #[], 204, f8, 9, .string lt, b8⟩]

theorem ruleRs_row {rs : List Rdr} {f0 f1 f2 f3 f4 f5 f6 f7 f8 : ByteArray} {y t mo oa ob oc ta tz U : Int} {lt : ByteArray} {b0 b1 b2 b3 b4 b5 b6 b7 b8 : Bool}
    (hrs : rs = ruleRs f0 f1 f2 f3 f4 f5 f6 f7 f8 y t mo oa ob oc ta tz U lt b0 b1 b2 b3 b4 b5 b6 b7 b8) (w : World) :
    ∀ j r, rs[j]? = some r → (w.alloc (.cells #[.iface 185 (.agg #[]), .iface 186 (.agg #[]), .iface 187 (.agg #[]), .iface 188 (.agg #[]), .iface 189 (.agg #[]), .iface 190 (.agg #[]), .iface 191 (.agg #[]), .iface 212 (.agg #[.int .i64 0, .int .i64 7200]), .iface 192 (.agg #[])] 175)).cell? ⟨w.heap.size, 0 + j, none⟩ = some (.iface r.T r.v) := by
  intro j r hj
  subst hrs
  have := (Bx.new w ((ruleRs f0 f1 f2 f3 f4 f5 f6 f7 f8 y t mo oa ob oc ta tz U lt b0 b1 b2 b3 b4 b5 b6 b7 b8).map fun r => Value.iface r.T r.v) 175).c j (v := .iface r.T r.v) (by rw [List.getElem?_map, hj]; rfl)
  rw [Nat.zero_add]
  exact this
/-- a rule's cells, nothing said. -/
def zRule : List Value := [.string ⟨#[]⟩, .int .i64 0, .int .i64 0, .int .i64 0, .int .i64 0, .int .i64 0, .int .i64 0, .int .i64 0, .int .u8 0, .int .i64 0, .string ⟨#[]⟩]
theorem zRule_one : (#[.string ⟨#[]⟩, .int .i64 0, .int .i64 0, .int .i64 0, .int .i64 0, .int .i64 0, .int .i64 0, .int .i64 0, .int .u8 0, .int .i64 0, .string ⟨#[]⟩] : Array Value).all (·.oneCell') = true := all_oneCell_toArray (cs := zRule) (by intro v hv; simp [zRule] at hv; rcases hv with rfl | rfl | rfl | rfl | rfl <;> rfl)

set_option maxRecDepth 100000 in
set_option maxHeartbeats 4000000 in
theorem readRule_no (rs : List Rdr) (f0 f1 f2 f3 f4 f5 f6 f7 f8 : ByteArray) (y t mo oa ob oc ta tz U : Int) (lt : ByteArray) (b0 b1 b2 b3 b4 b5 b6 b7 b8 : Bool)
    (hrs : Hid (rs = ruleRs f0 f1 f2 f3 f4 f5 f6 f7 f8 y t mo oa ob oc ta tz U lt b0 b1 b2 b3 b4 b5 b6 b7 b8)) (HK : Hid (∀ r ∈ rs, r.ok)) (hno : Hid (rdL rs [] = none))
    (g o c : Nat) (w : World) (hg : g < w.heap.size) (hc : 9 ≤ c) (HF : Hid (∀ j r, rs[j]? = some r → w.cell? ⟨g, o + j, none⟩ = some (.string r.f))) :
    Calls Tryz.prog 80 #[.slice (some ⟨g, o, none⟩) 9 c] w fun e w' => e = .returned (.tuple #[.agg #[.string ⟨#[]⟩, .int .i64 0, .int .i64 0, .int .i64 0, .int .i64 0, .int .i64 0, .int .i64 0, .int .i64 0, .int .u8 0, .int .i64 0, .string ⟨#[]⟩], .bool false]) ∧ Below w.heap.size w w' := by
  have HS : Hid (∀ w : World, Calls Tryz.prog 112 #[] w fun e w' => e = .returned (.iface 212 (.agg #[.int .i64 0, .int .i64 7200])) ∧ Below w.heap.size w w') := saveR
  go_enter Tryz.func80, Tryz.ntmps80
  go_wp2_with fail
  refine (HS.out _).mono ?_
  rintro e w2 ⟨rfl, hb2⟩
  go_wp2_with fail
  have X2 : Hid (Bx w2 w.heap.size zRule) := (Bx.new w zRule 85).below hb2
  have B2 : Hid (Below w.heap.size w w2) := NBs hb2 ((Below.refl _ _).alloc (Nat.le_refl _) _)
  clear hb2
  have hlen : rs.length = 9 := by rw [hrs.out]; rfl
  have hg2 : g < w2.heap.size := Nat.lt_of_lt_of_le hg B2.out.size
  refine (readAll_any rs 9 hlen g o w2.heap.size 0 c 9 _ HK (by simp; omega) (by simp) (by decide) (fun j r hj => ?_) (ruleRs_row hrs.out w2) hc (Nat.le_refl _)).mono ?_
  · exact ((Below.refl _ w2).alloc (Nat.le_refl _) _ |>.cell hg2).trans ((B2.out.cell hg).trans (HF.out j r hj))
  rintro e w3 ⟨hb3, hR⟩
  rw [hno.out] at hR
  have hR' : e = .returned (.tuple #[.slice none 0 0, .bool false]) := hR
  subst hR'
  have X3 : Hid (Bx w3 w.heap.size zRule) := (X2.out.alloc _).below hb3
  have B3 : Hid (Below w.heap.size w w3) := (B2.out.alloc B2.out.size _).trans (hb3.mono (B2.out.alloc B2.out.size _).size)
  clear hR hb3 X2 B2 HK HF hrs hno HS hlen
  go_wp2_with (refine wpList_store_mid rfl 85 _ _ rfl w.heap.size 0 #[.string ⟨#[]⟩, .int .i64 0, .int .i64 0, .int .i64 0, .int .i64 0, .int .i64 0, .int .i64 0, .int .i64 0, .int .u8 0, .int .i64 0, .string ⟨#[]⟩] rfl rfl X3.out.there (by kernel_rfl) zRule_one ?_; refine gen_list (fun V => Bx V w.heap.size zRule ∧ Below w.heap.size w V) ⟨X3.out.setAll zRule rfl, below_setCells (Nat.le_refl _) zRule w3 0 B3.out⟩ ?_; clear X3 B3; rintro w4 ⟨X4, B4⟩)
  have y0 := X4.c 0 rfl
  have y1 := X4.c 1 rfl
  have y2 := X4.c 2 rfl
  have y3 := X4.c 3 rfl
  have y4 := X4.c 4 rfl
  have y5 := X4.c 5 rfl
  have y6 := X4.c 6 rfl
  have y7 := X4.c 7 rfl
  have y8 := X4.c 8 rfl
  have y9 := X4.c 9 rfl
  have y10 := X4.c 10 rfl
  have HB : Hid (Below w.heap.size w w4) := B4
  clear X4 B4
  refine bodyPost_ret (v := .tuple #[.agg #[.string ⟨#[]⟩, .int .i64 0, .int .i64 0, .int .i64 0, .int .i64 0, .int .i64 0, .int .i64 0, .int .i64 0, .int .u8 0, .int .i64 0, .string ⟨#[]⟩], .bool false]) (by simp [results, Tryz.results80, go_sem, y0, y1, y2, y3, y4, y5, y6, y7, y8, y9, y10]) rfl ⟨rfl, HB.out⟩

end Go.Proofs.YtgnfkkcagbbhmaaGreatDoor
