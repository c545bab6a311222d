/- Contract: src.readZone. -/
import Derived.Test.YtgnfkkcagbbhmaaGreatDoorPmGq
namespace Go.Proofs.YtgnfkkcagbbhmaaGreatDoor
open Go.RowKit
open Sr (gen_any gen_list)
set_option linter.unusedVariables false

theorem era_all (r : EraT) : (#[.int .i64 r.off, .string r.rl, .int .i64 r.sv, .string r.fm, .int .i64 r.u.y, .int .i64 r.u.mo, .int .i64 r.u.oa, .int .i64 r.u.ob, .int .i64 r.u.oc, .int .i64 r.u.ta, .int .u8 r.u.tz] : Array Value).all (·.oneCell') = true := all_oneCell_toArray (cs := r.cs) (era_oneP r)
set_option maxRecDepth 100000 in
set_option maxHeartbeats 1000000 in
theorem readZone_none (a : Option Addr) (c : Nat) (w : World) :
    Calls Tryz.prog 81 #[.slice a 0 c] w fun e w' => e = .returned (.tuple #[.string ⟨#[]⟩, .agg #[.int .i64 0, .string ⟨#[]⟩, .int .i64 0, .string ⟨#[]⟩, .int .i64 0, .int .i64 0, .int .i64 0, .int .i64 0, .int .i64 0, .int .i64 0, .int .u8 0], .bool false]) ∧ Below w.heap.size w w' := by
  have X1 : Hid (Bx (w.alloc (.cells #[.int .i64 0, .string ⟨#[]⟩, .int .i64 0, .string ⟨#[]⟩, .int .i64 0, .int .i64 0, .int .i64 0, .int .i64 0, .int .i64 0, .int .i64 0, .int .u8 0] 94)) w.heap.size zEra) := Bx.new w zEra _
  have B1 : Hid (Below w.heap.size w (w.alloc (.cells #[.int .i64 0, .string ⟨#[]⟩, .int .i64 0, .string ⟨#[]⟩, .int .i64 0, .int .i64 0, .int .i64 0, .int .i64 0, .int .i64 0, .int .i64 0, .int .u8 0] 94))) := (Below.refl _ _).alloc (Nat.le_refl _) _
  go_enter Tryz.func81, Tryz.ntmps81
  go_wp2_with (refine wpList_store_mid rfl 94 _ _ rfl w.heap.size 0 #[.int .i64 0, .string ⟨#[]⟩, .int .i64 0, .string ⟨#[]⟩, .int .i64 0, .int .i64 0, .int .i64 0, .int .i64 0, .int .i64 0, .int .i64 0, .int .u8 0] rfl rfl X1.out.there (by kernel_rfl) zEra_one ?_; refine gen_list (fun V => Bx V w.heap.size zEra ∧ Below w.heap.size w V) ⟨X1.out.setAll zEra rfl, below_setCells (Nat.le_refl _) zEra _ 0 B1.out⟩ ?_; rintro w4 ⟨X4, B4⟩)
  have y0 := X4.c 0 rfl
  have y1 := X4.c 1 rfl
  have y2 := X4.c 2 rfl
  have y3 := X4.c 3 rfl
  have y4 := X4.c 4 rfl
  have y5 := X4.c 5 rfl
  have y6 := X4.c 6 rfl
  have y7 := X4.c 7 rfl
  have y8 := X4.c 8 rfl
  have y9 := X4.c 9 rfl
  have y10 := X4.c 10 rfl
  have HB : Hid (Below w.heap.size w w4) := B4
  clear X4 B4
  refine bodyPost_ret (v := .tuple #[.string ⟨#[]⟩, .agg #[.int .i64 0, .string ⟨#[]⟩, .int .i64 0, .string ⟨#[]⟩, .int .i64 0, .int .i64 0, .int .i64 0, .int .i64 0, .int .i64 0, .int .i64 0, .int .u8 0], .bool false]) (by simp [results, Tryz.results81, go_sem, y0, y1, y2, y3, y4, y5, y6, y7, y8, y9, y10]) rfl ⟨rfl, HB.out⟩

set_option maxRecDepth 100000 in
set_option maxHeartbeats 1000000 in
theorem readZone_no (f : ByteArray) (k g o c : Nat) (r : EraT) (b1 b : Bool) (hbb : (b1 && b) = false) (rs : List Rdr) (hrs : Hid (rs = [⟨185, .agg #[], 168, f, 9, .string f, b1⟩])) (HK : Hid (∀ r ∈ rs, r.ok)) (w : World) (hg : g < w.heap.size) (hc : k + 1 ≤ c) (HF : Hid (∀ j r, rs[j]? = some r → w.cell? ⟨g, o + j, none⟩ = some (.string r.f))) (A : Option Addr) (hA : Hid ((if c = 1 then some (⟨g, o, none⟩ : Addr) else some ⟨g, o + 1, none⟩) = A))
    (ER : Hid (∀ W : World, Below w.heap.size w W → Calls Tryz.prog 77 #[.slice A k (c - 1)] W fun e W' => e = .returned (.tuple #[.agg #[.int .i64 r.off, .string r.rl, .int .i64 r.sv, .string r.fm, .int .i64 r.u.y, .int .i64 r.u.mo, .int .i64 r.u.oa, .int .i64 r.u.ob, .int .i64 r.u.oc, .int .i64 r.u.ta, .int .u8 r.u.tz], .bool b]) ∧ Below W.heap.size W W')) :
    Calls Tryz.prog 81 #[.slice (some ⟨g, o, none⟩) (k + 1) c] w fun e w' => e = .returned (.tuple #[.string ⟨#[]⟩, .agg #[.int .i64 0, .string ⟨#[]⟩, .int .i64 0, .string ⟨#[]⟩, .int .i64 0, .int .i64 0, .int .i64 0, .int .i64 0, .int .i64 0, .int .i64 0, .int .u8 0], .bool false]) ∧ Below w.heap.size w w' := by
  have h1 : (1 : Int) ≤ (k : Int) + 1 := by omega
  have h2 : (k : Int) + 1 ≤ (c : Int) := by omega
  have h3 : (1 : Int) ≤ (c : Int) := by omega
  have h4 : ¬ (k : Int) + 1 = 0 := by omega
  have hA2 : _ = _ := hA.out
  go_enter Tryz.func81, Tryz.ntmps81
  go_wp2_with fail
  have hlen : rs.length = 1 := by rw [hrs.out]; rfl
  have B2 : Hid (Below w.heap.size w ((w.alloc (.cells #[.int .i64 0, .string ⟨#[]⟩, .int .i64 0, .string ⟨#[]⟩, .int .i64 0, .int .i64 0, .int .i64 0, .int .i64 0, .int .i64 0, .int .i64 0, .int .u8 0] 94)).alloc (.cells #[.iface 185 (.agg #[])] 175))) := ((Below.refl _ _).alloc (Nat.le_refl _) _).alloc (by simp) _
  have X2 : Hid (Bx ((w.alloc (.cells #[.int .i64 0, .string ⟨#[]⟩, .int .i64 0, .string ⟨#[]⟩, .int .i64 0, .int .i64 0, .int .i64 0, .int .i64 0, .int .i64 0, .int .i64 0, .int .u8 0] 94)).alloc (.cells #[.iface 185 (.agg #[])] 175)) w.heap.size zEra) := (Bx.new w zEra 94).alloc _
  have hsz2 : w.heap.size + 1 < (((w.alloc (.cells #[.int .i64 0, .string ⟨#[]⟩, .int .i64 0, .string ⟨#[]⟩, .int .i64 0, .int .i64 0, .int .i64 0, .int .i64 0, .int .i64 0, .int .i64 0, .int .u8 0] 94)).alloc (.cells #[.iface 185 (.agg #[])] 175))).heap.size := by simp
  refine (readAll_any rs 1 hlen g o (w.heap.size + 1) 0 c 1 _ HK (by simp; omega) (by simp) (by decide) (fun j r hj => (B2.out.cell hg).trans (HF.out j r hj)) (fun j r hj => ?_) (by omega) (Nat.le_refl _)).mono ?_
  · have e1 := hrs.out
    subst e1
    have := (Bx.new (w.alloc (.cells #[.int .i64 0, .string ⟨#[]⟩, .int .i64 0, .string ⟨#[]⟩, .int .i64 0, .int .i64 0, .int .i64 0, .int .i64 0, .int .i64 0, .int .i64 0, .int .u8 0] 94)) [.iface 185 (.agg #[])] 175).c j (v := .iface r.T r.v) (by match j, hj with | 0, hj => (cases hj; rfl) | j + 1, hj => (simp at hj))
    rw [Nat.zero_add]
    simpa using this
  rintro e w3 ⟨hb3, hR⟩
  have B3 : Hid (Below w.heap.size w w3) := B2.out.trans (hb3.mono B2.out.size)
  have X3 : Hid (Bx w3 w.heap.size zEra) := X2.out.below hb3
  cases b1 with
  | false =>
    rw [show rdL rs [] = none by rw [hrs.out]; rfl] at hR
    have hR' : e = .returned (.tuple #[.slice none 0 0, .bool false]) := hR
    subst hR'
    clear hR hb3 B2 X2 hsz2 HK HF hrs hlen hbb
    go_wp2_with fail
    refine (ER.out _ B3.out).mono ?_
    rintro e w5 ⟨rfl, hb5⟩
    have B5 : Hid (Below w.heap.size w w5) := B3.out.trans (hb5.mono B3.out.size)
    have X5 : Hid (Bx w5 w.heap.size zEra) := X3.out.below hb5
    clear hb5 B3 X3
    have B6 : Hid (Below w.heap.size w (w5.alloc (.cells #[.int .i64 r.off, .string r.rl, .int .i64 r.sv, .string r.fm, .int .i64 r.u.y, .int .i64 r.u.mo, .int .i64 r.u.oa, .int .i64 r.u.ob, .int .i64 r.u.oc, .int .i64 r.u.ta, .int .u8 r.u.tz] 94))) := B5.out.alloc B5.out.size _
    have X6 : Hid (Bx (w5.alloc (.cells #[.int .i64 r.off, .string r.rl, .int .i64 r.sv, .string r.fm, .int .i64 r.u.y, .int .i64 r.u.mo, .int .i64 r.u.oa, .int .i64 r.u.ob, .int .i64 r.u.oc, .int .i64 r.u.ta, .int .u8 r.u.tz] 94)) w.heap.size zEra) := X5.out.alloc _
    clear B5 X5
    go_wp2_with (refine wpList_store_mid rfl 94 _ _ rfl w.heap.size 0 #[.int .i64 0, .string ⟨#[]⟩, .int .i64 0, .string ⟨#[]⟩, .int .i64 0, .int .i64 0, .int .i64 0, .int .i64 0, .int .i64 0, .int .i64 0, .int .u8 0] rfl rfl X6.out.there (by kernel_rfl) zEra_one ?_; refine gen_list (fun V => Bx V w.heap.size zEra ∧ Below w.heap.size w V) ⟨X6.out.setAll zEra rfl, below_setCells (Nat.le_refl _) zEra _ 0 B6.out⟩ ?_; rintro w7 ⟨X4, B4⟩)
    have y0 := X4.c 0 rfl
    have y1 := X4.c 1 rfl
    have y2 := X4.c 2 rfl
    have y3 := X4.c 3 rfl
    have y4 := X4.c 4 rfl
    have y5 := X4.c 5 rfl
    have y6 := X4.c 6 rfl
    have y7 := X4.c 7 rfl
    have y8 := X4.c 8 rfl
    have y9 := X4.c 9 rfl
    have y10 := X4.c 10 rfl
    have HB : Hid (Below w.heap.size w w7) := B4
    clear X4 B4
    refine bodyPost_ret (v := .tuple #[.string ⟨#[]⟩, .agg #[.int .i64 0, .string ⟨#[]⟩, .int .i64 0, .string ⟨#[]⟩, .int .i64 0, .int .i64 0, .int .i64 0, .int .i64 0, .int .i64 0, .int .i64 0, .int .u8 0], .bool false]) (by simp [results, Tryz.results81, go_sem, y0, y1, y2, y3, y4, y5, y6, y7, y8, y9, y10]) rfl ⟨rfl, HB.out⟩
  | true =>
    have hbb2 : b = false := by simpa using hbb
    subst hbb2
    rw [show rdL rs [] = some [.iface 9 (.string f)] by rw [hrs.out]; rfl] at hR
    obtain ⟨v, hv, hO⟩ := hR
    subst hv
    clear hO hb3 B2 X2 hsz2 HK HF hrs hlen hbb
    go_wp2_with fail
    refine (ER.out _ B3.out).mono ?_
    rintro e w5 ⟨rfl, hb5⟩
    have B5 : Hid (Below w.heap.size w w5) := B3.out.trans (hb5.mono B3.out.size)
    have X5 : Hid (Bx w5 w.heap.size zEra) := X3.out.below hb5
    clear hb5 B3 X3
    have B6 : Hid (Below w.heap.size w (w5.alloc (.cells #[.int .i64 r.off, .string r.rl, .int .i64 r.sv, .string r.fm, .int .i64 r.u.y, .int .i64 r.u.mo, .int .i64 r.u.oa, .int .i64 r.u.ob, .int .i64 r.u.oc, .int .i64 r.u.ta, .int .u8 r.u.tz] 94))) := B5.out.alloc B5.out.size _
    have X6 : Hid (Bx (w5.alloc (.cells #[.int .i64 r.off, .string r.rl, .int .i64 r.sv, .string r.fm, .int .i64 r.u.y, .int .i64 r.u.mo, .int .i64 r.u.oa, .int .i64 r.u.ob, .int .i64 r.u.oc, .int .i64 r.u.ta, .int .u8 r.u.tz] 94)) w.heap.size zEra) := X5.out.alloc _
    clear B5 X5
    go_wp2_with (refine wpList_store_mid rfl 94 _ _ rfl w.heap.size 0 #[.int .i64 0, .string ⟨#[]⟩, .int .i64 0, .string ⟨#[]⟩, .int .i64 0, .int .i64 0, .int .i64 0, .int .i64 0, .int .i64 0, .int .i64 0, .int .u8 0] rfl rfl X6.out.there (by kernel_rfl) zEra_one ?_; refine gen_list (fun V => Bx V w.heap.size zEra ∧ Below w.heap.size w V) ⟨X6.out.setAll zEra rfl, below_setCells (Nat.le_refl _) zEra _ 0 B6.out⟩ ?_; rintro w7 ⟨X4, B4⟩)
    have y0 := X4.c 0 rfl
    have y1 := X4.c 1 rfl
    have y2 := X4.c 2 rfl
    have y3 := X4.c 3 rfl
    have y4 := X4.c 4 rfl
    have y5 := X4.c 5 rfl
    have y6 := X4.c 6 rfl
    have y7 := X4.c 7 rfl
    have y8 := X4.c 8 rfl
    have y9 := X4.c 9 rfl
    have y10 := X4.c 10 rfl
    have HB : Hid (Below w.heap.size w w7) := B4
    clear X4 B4
    refine bodyPost_ret (v := .tuple #[.string ⟨#[]⟩, .agg #[.int .i64 0, .string ⟨#[]⟩, .int .i64 0, .string ⟨#[]⟩, .int .i64 0, .int .i64 0, .int .i64 0, .int .i64 0, .int .i64 0, .int .i64 0, .int .u8 0], .bool false]) (by simp [results, Tryz.results81, go_sem, y0, y1, y2, y3, y4, y5, y6, y7, y8, y9, y10]) rfl ⟨rfl, HB.out⟩

set_option maxRecDepth 100000 in
set_option maxHeartbeats 1000000 in
theorem readZone_yes (f : ByteArray) (k g o c : Nat) (r : EraT) (rs : List Rdr) (hrs : Hid (rs = [⟨185, .agg #[], 168, f, 9, .string f, true⟩])) (HK : Hid (∀ r ∈ rs, r.ok)) (w : World) (hg : g < w.heap.size) (hc : k + 1 ≤ c) (HF : Hid (∀ j r, rs[j]? = some r → w.cell? ⟨g, o + j, none⟩ = some (.string r.f))) (A : Option Addr) (hA : Hid ((if c = 1 then some (⟨g, o, none⟩ : Addr) else some ⟨g, o + 1, none⟩) = A))
    (ER : Hid (∀ W : World, Below w.heap.size w W → Calls Tryz.prog 77 #[.slice A k (c - 1)] W fun e W' => e = .returned (.tuple #[.agg #[.int .i64 r.off, .string r.rl, .int .i64 r.sv, .string r.fm, .int .i64 r.u.y, .int .i64 r.u.mo, .int .i64 r.u.oa, .int .i64 r.u.ob, .int .i64 r.u.oc, .int .i64 r.u.ta, .int .u8 r.u.tz], .bool true]) ∧ Below W.heap.size W W')) :
    Calls Tryz.prog 81 #[.slice (some ⟨g, o, none⟩) (k + 1) c] w fun e w' => e = .returned (.tuple #[.string f, .agg #[.int .i64 r.off, .string r.rl, .int .i64 r.sv, .string r.fm, .int .i64 r.u.y, .int .i64 r.u.mo, .int .i64 r.u.oa, .int .i64 r.u.ob, .int .i64 r.u.oc, .int .i64 r.u.ta, .int .u8 r.u.tz], .bool true]) ∧ Below w.heap.size w w' := by
  have h1 : (1 : Int) ≤ (k : Int) + 1 := by omega
  have h2 : (k : Int) + 1 ≤ (c : Int) := by omega
  have h3 : (1 : Int) ≤ (c : Int) := by omega
  have h4 : ¬ (k : Int) + 1 = 0 := by omega
  have hA2 : _ = _ := hA.out
  go_enter Tryz.func81, Tryz.ntmps81
  go_wp2_with fail
  have hlen : rs.length = 1 := by rw [hrs.out]; rfl
  have B2 : Hid (Below w.heap.size w ((w.alloc (.cells #[.int .i64 0, .string ⟨#[]⟩, .int .i64 0, .string ⟨#[]⟩, .int .i64 0, .int .i64 0, .int .i64 0, .int .i64 0, .int .i64 0, .int .i64 0, .int .u8 0] 94)).alloc (.cells #[.iface 185 (.agg #[])] 175))) := ((Below.refl _ _).alloc (Nat.le_refl _) _).alloc (by simp) _
  have X2 : Hid (Bx ((w.alloc (.cells #[.int .i64 0, .string ⟨#[]⟩, .int .i64 0, .string ⟨#[]⟩, .int .i64 0, .int .i64 0, .int .i64 0, .int .i64 0, .int .i64 0, .int .i64 0, .int .u8 0] 94)).alloc (.cells #[.iface 185 (.agg #[])] 175)) w.heap.size zEra) := (Bx.new w zEra 94).alloc _
  have hsz2 : w.heap.size + 1 < (((w.alloc (.cells #[.int .i64 0, .string ⟨#[]⟩, .int .i64 0, .string ⟨#[]⟩, .int .i64 0, .int .i64 0, .int .i64 0, .int .i64 0, .int .i64 0, .int .i64 0, .int .u8 0] 94)).alloc (.cells #[.iface 185 (.agg #[])] 175))).heap.size := by simp
  refine (readAll_any rs 1 hlen g o (w.heap.size + 1) 0 c 1 _ HK (by simp; omega) (by simp) (by decide) (fun j r hj => (B2.out.cell hg).trans (HF.out j r hj)) (fun j r hj => ?_) (by omega) (Nat.le_refl _)).mono ?_
  · have e1 := hrs.out
    subst e1
    have := (Bx.new (w.alloc (.cells #[.int .i64 0, .string ⟨#[]⟩, .int .i64 0, .string ⟨#[]⟩, .int .i64 0, .int .i64 0, .int .i64 0, .int .i64 0, .int .i64 0, .int .i64 0, .int .u8 0] 94)) [.iface 185 (.agg #[])] 175).c j (v := .iface r.T r.v) (by match j, hj with | 0, hj => (cases hj; rfl) | j + 1, hj => (simp at hj))
    rw [Nat.zero_add]
    simpa using this
  rintro e w3 ⟨hb3, hR⟩
  have B3 : Hid (Below w.heap.size w w3) := B2.out.trans (hb3.mono B2.out.size)
  have X3 : Hid (Bx w3 w.heap.size zEra) := X2.out.below hb3
  rw [show rdL rs [] = some [.iface 9 (.string f)] by rw [hrs.out]; rfl] at hR
  obtain ⟨v, hv, hO⟩ := hR
  subst hv
  have hgw : ∀ r, v.ownBlock = some r → w.heap.size < r := fun r hr => by have := (hO.lt r hr).1; simp at this; omega
  obtain ⟨gb, cb, rfl, hgb, hcs⟩ := row_of_own 1 hO rfl (by decide)
  have hne : gb ≠ w.heap.size := by have := hgw gb rfl; omega
  have hc0 := hcs 0 _ rfl
  clear hcs hO hb3 B2 X2 hsz2 HK HF hrs hlen hgw
  go_wp2_with fail
  refine (ER.out _ B3.out).mono ?_
  rintro e w5 ⟨rfl, hb5⟩
  obtain ⟨tb, htb⟩ : ∃ tb, tb = w5.heap.size := ⟨_, rfl⟩
  have htw : w.heap.size < tb := by have := X3.out.1; have := hb5.size; omega
  have S4 : Hid (Below w.heap.size w (w5.alloc (.cells #[.int .i64 r.off, .string r.rl, .int .i64 r.sv, .string r.fm, .int .i64 r.u.y, .int .i64 r.u.mo, .int .i64 r.u.oa, .int .i64 r.u.ob, .int .i64 r.u.oc, .int .i64 r.u.ta, .int .u8 r.u.tz] 94)) ∧ (w5.alloc (.cells #[.int .i64 r.off, .string r.rl, .int .i64 r.sv, .string r.fm, .int .i64 r.u.y, .int .i64 r.u.mo, .int .i64 r.u.oa, .int .i64 r.u.ob, .int .i64 r.u.oc, .int .i64 r.u.ta, .int .u8 r.u.tz] 94)).cell? ⟨gb, 0, none⟩ = some (.iface 9 (.string f)) ∧ Bx (w5.alloc (.cells #[.int .i64 r.off, .string r.rl, .int .i64 r.sv, .string r.fm, .int .i64 r.u.y, .int .i64 r.u.mo, .int .i64 r.u.oa, .int .i64 r.u.ob, .int .i64 r.u.oc, .int .i64 r.u.ta, .int .u8 r.u.tz] 94)) tb r.cs ∧ (∃ l, l.length = 11 ∧ Bx (w5.alloc (.cells #[.int .i64 r.off, .string r.rl, .int .i64 r.sv, .string r.fm, .int .i64 r.u.y, .int .i64 r.u.mo, .int .i64 r.u.oa, .int .i64 r.u.ob, .int .i64 r.u.oc, .int .i64 r.u.ta, .int .u8 r.u.tz] 94)) w.heap.size l)) := ⟨(B3.out.trans (hb5.mono B3.out.size)).alloc (B3.out.trans (hb5.mono B3.out.size)).size _, (((hb5.alloc (Nat.le_trans (Nat.le_refl _) hb5.size) (.cells #[.int .i64 r.off, .string r.rl, .int .i64 r.sv, .string r.fm, .int .i64 r.u.y, .int .i64 r.u.mo, .int .i64 r.u.oa, .int .i64 r.u.ob, .int .i64 r.u.oc, .int .i64 r.u.ta, .int .u8 r.u.tz] 94)).cell (p := ⟨gb, 0, none⟩) hgb).trans hc0), by rw [htb]; exact Bx.new w5 r.cs _, zEra, rfl, (X3.out.below hb5).alloc _⟩
  clear hb5 B3 X3 hc0 hgb
  have s0 := ta_str f
  go_upto_region 7 with fail
  refine gen_code (fun V => (Below w.heap.size w V ∧ V.cell? ⟨gb, 0, none⟩ = some (.iface 9 (.string f)) ∧ Bx V tb r.cs ∧ (∃ l, l.length = 11 ∧ Bx V w.heap.size l))) S4.out ?_
  clear S4
  intro w8 hS8
  have S4 : Hid (Below w.heap.size w w8 ∧ w8.cell? ⟨gb, 0, none⟩ = some (.iface 9 (.string f)) ∧ Bx w8 tb r.cs ∧ (∃ l, l.length = 11 ∧ Bx w8 w.heap.size l)) := hS8
  clear hS8
  rw [← htb]
  clear htb
  go_wp2_with fail
  refine wp_region_held_drew (S := fun V => (Below w.heap.size w V ∧ V.cell? ⟨gb, 0, none⟩ = some (.iface 9 (.string f)) ∧ Bx V tb r.cs ∧ (∃ l, l.length = 11 ∧ Bx V w.heap.size l))) (by kernel_rfl) (show (Below w.heap.size w (w8.drew) ∧ (w8.drew).cell? ⟨gb, 0, none⟩ = some (.iface 9 (.string f)) ∧ Bx (w8.drew) tb r.cs ∧ (∃ l, l.length = 11 ∧ Bx (w8.drew) w.heap.size l)) from ⟨S4.out.1.drew, S4.out.2⟩) (fun hHeld => ?_)
  refine gen_any (fun V => (Below w.heap.size w V ∧ V.cell? ⟨gb, 0, none⟩ = some (.iface 9 (.string f)) ∧ Bx V tb r.cs ∧ (∃ l, l.length = 11 ∧ Bx V w.heap.size l))) hHeld ?_
  clear hHeld S4
  rintro w9 hHeld
  refine wpAnyH_take (i := 0) (v := ?_) (oi := { dst := some 35, op := _, type := _, pos := _, after := _, guard := none }) rfl (by kernel_rfl) (by kernel_rfl) (by kernel_rfl) (fun _ _ _ h => h) (Or.inl ⟨by kernel_rfl, ?_⟩) (by assumption) ?_
  case refine_2 => (intro w9 hSw; clear hSw; go_simp; try with_reducible rfl)
  simp only [Act.put, List.setIfInBounds_toArray, List.set_cons_zero, List.set_cons_succ]
  refine wpAnyH_take (i := 1) (v := ?_) (oi := { dst := some 36, op := _, type := _, pos := _, after := _, guard := none }) rfl (by kernel_rfl) (by kernel_rfl) (by kernel_rfl) (fun _ _ _ h => h) (Or.inl ⟨by kernel_rfl, ?_⟩) (by assumption) ?_
  case refine_2 => (intro w9 hSw; clear hSw; go_simp; try with_reducible rfl)
  simp only [Act.put, List.setIfInBounds_toArray, List.set_cons_zero, List.set_cons_succ]
  refine wpAnyH_take (i := 2) (v := ?_) (oi := { dst := some 37, op := _, type := _, pos := _, after := _, guard := none }) rfl (by kernel_rfl) (by kernel_rfl) (by kernel_rfl) (fun _ _ _ h => h) (Or.inl ⟨by kernel_rfl, ?_⟩) (by assumption) ?_
  case refine_2 => (intro w9 hSw; obtain ⟨_, z1, z2, _⟩ := hSw; have s0 := ta_str f; have u0 := z2.c 0 rfl; have u1 := z2.c 1 rfl; have u2 := z2.c 2 rfl; have u3 := z2.c 3 rfl; have u4 := z2.c 4 rfl; have u5 := z2.c 5 rfl; have u6 := z2.c 6 rfl; have u7 := z2.c 7 rfl; have u8 := z2.c 8 rfl; have u9 := z2.c 9 rfl; have u10 := z2.c 10 rfl; clear z2; go_simp; try with_reducible rfl)
  simp only [Act.put, List.setIfInBounds_toArray, List.set_cons_zero, List.set_cons_succ]
  refine wpAnyH_take (i := 3) (v := ?_) (oi := { dst := some 38, op := _, type := _, pos := _, after := _, guard := none }) rfl (by kernel_rfl) (by kernel_rfl) (by kernel_rfl) (fun _ _ _ h => h) (Or.inl ⟨by kernel_rfl, ?_⟩) (by assumption) ?_
  case refine_2 => (intro w9 hSw; clear hSw; go_simp; try with_reducible rfl)
  simp only [Act.put, List.setIfInBounds_toArray, List.set_cons_zero, List.set_cons_succ]
  refine wpAnyH_take (i := 4) (v := ?_) (oi := { dst := some 39, op := _, type := _, pos := _, after := _, guard := none }) rfl (by kernel_rfl) (by kernel_rfl) (by kernel_rfl) (fun _ _ _ h => h) (Or.inl ⟨by kernel_rfl, ?_⟩) (by assumption) ?_
  case refine_2 => (intro w9 hSw; obtain ⟨_, z1, z2, _⟩ := hSw; have s0 := ta_str f; have u0 := z2.c 0 rfl; have u1 := z2.c 1 rfl; have u2 := z2.c 2 rfl; have u3 := z2.c 3 rfl; have u4 := z2.c 4 rfl; have u5 := z2.c 5 rfl; have u6 := z2.c 6 rfl; have u7 := z2.c 7 rfl; have u8 := z2.c 8 rfl; have u9 := z2.c 9 rfl; have u10 := z2.c 10 rfl; clear z2; go_simp; try with_reducible rfl)
  simp only [Act.put, List.setIfInBounds_toArray, List.set_cons_zero, List.set_cons_succ]
  refine wpAnyH_take (i := 5) (v := ?_) (oi := { dst := some 2, op := _, type := _, pos := _, after := _, guard := none }) rfl (by kernel_rfl) (by kernel_rfl) (by kernel_rfl) (fun _ _ _ h => h) (Or.inl ⟨by kernel_rfl, ?_⟩) (by assumption) ?_
  case refine_2 => (intro w9 hSw; clear hSw; go_simp; try with_reducible rfl)
  simp only [Act.put, List.setIfInBounds_toArray, List.set_cons_zero, List.set_cons_succ]
  refine wpAnyH_ready (rs := [6]) (by kernel_rfl) (by simp) (AllReadyH.cons (o := { dst := none, op := _, type := _, pos := _, after := _, guard := none }) rfl (fun K hK => ?_) AllReadyH.nil)
  obtain ⟨hB5, hX5, hT5, l5, hl5, hZ5⟩ := id hHeld
  have hTh : w9.there w.heap.size 0 11 := by have := hZ5.there; rw [hl5] at this; exact this
  have P1 : Below w.heap.size w (w9.setCells w.heap.size 0 [.int .i64 r.off, .string r.rl, .int .i64 r.sv, .string r.fm, .int .i64 r.u.y, .int .i64 r.u.mo, .int .i64 r.u.oa, .int .i64 r.u.ob, .int .i64 r.u.oc, .int .i64 r.u.ta, .int .u8 r.u.tz]) := below_setCells (Nat.le_refl _) [.int .i64 r.off, .string r.rl, .int .i64 r.sv, .string r.fm, .int .i64 r.u.y, .int .i64 r.u.mo, .int .i64 r.u.oa, .int .i64 r.u.ob, .int .i64 r.u.oc, .int .i64 r.u.ta, .int .u8 r.u.tz] w9 0 hB5
  have P3 : Bx (w9.setCells w.heap.size 0 [.int .i64 r.off, .string r.rl, .int .i64 r.sv, .string r.fm, .int .i64 r.u.y, .int .i64 r.u.mo, .int .i64 r.u.oa, .int .i64 r.u.ob, .int .i64 r.u.oc, .int .i64 r.u.ta, .int .u8 r.u.tz]) w.heap.size r.cs := hZ5.setAll r.cs hl5
  have P4 : (Below w.heap.size w (w9.setCells w.heap.size 0 [.int .i64 r.off, .string r.rl, .int .i64 r.sv, .string r.fm, .int .i64 r.u.y, .int .i64 r.u.mo, .int .i64 r.u.oa, .int .i64 r.u.ob, .int .i64 r.u.oc, .int .i64 r.u.ta, .int .u8 r.u.tz]) ∧ (w9.setCells w.heap.size 0 [.int .i64 r.off, .string r.rl, .int .i64 r.sv, .string r.fm, .int .i64 r.u.y, .int .i64 r.u.mo, .int .i64 r.u.oa, .int .i64 r.u.ob, .int .i64 r.u.oc, .int .i64 r.u.ta, .int .u8 r.u.tz]).cell? ⟨gb, 0, none⟩ = some (.iface 9 (.string f)) ∧ Bx (w9.setCells w.heap.size 0 [.int .i64 r.off, .string r.rl, .int .i64 r.sv, .string r.fm, .int .i64 r.u.y, .int .i64 r.u.mo, .int .i64 r.u.oa, .int .i64 r.u.ob, .int .i64 r.u.oc, .int .i64 r.u.ta, .int .u8 r.u.tz]) tb r.cs ∧ (∃ l, l.length = 11 ∧ Bx (w9.setCells w.heap.size 0 [.int .i64 r.off, .string r.rl, .int .i64 r.sv, .string r.fm, .int .i64 r.u.y, .int .i64 r.u.mo, .int .i64 r.u.oa, .int .i64 r.u.ob, .int .i64 r.u.oc, .int .i64 r.u.ta, .int .u8 r.u.tz]) w.heap.size l)) := ⟨P1, (setCells_off _ _ _ _ _ hne).trans hX5, hT5.setOther (by omega) _, r.cs, rfl, P3⟩
  refine (if_pos (by kernel_rfl)).mpr (wp_store_mid 94 _ _ rfl w.heap.size 0 #[.int .i64 r.off, .string r.rl, .int .i64 r.sv, .string r.fm, .int .i64 r.u.y, .int .i64 r.u.mo, .int .i64 r.u.oa, .int .i64 r.u.ob, .int .i64 r.u.oc, .int .i64 r.u.ta, .int .u8 r.u.tz] rfl rfl hTh (by kernel_rfl) (era_all r) ?_)
  refine hK.out _ (w9.setCells w.heap.size 0 [.int .i64 r.off, .string r.rl, .int .i64 r.sv, .string r.fm, .int .i64 r.u.y, .int .i64 r.u.mo, .int .i64 r.u.oa, .int .i64 r.u.ob, .int .i64 r.u.oc, .int .i64 r.u.ta, .int .u8 r.u.tz]) P4 (fun _ => ?_)
  clear hK K
  refine gen_any (w1 := (w9.setCells w.heap.size 0 [.int .i64 r.off, .string r.rl, .int .i64 r.sv, .string r.fm, .int .i64 r.u.y, .int .i64 r.u.mo, .int .i64 r.u.oa, .int .i64 r.u.ob, .int .i64 r.u.oc, .int .i64 r.u.ta, .int .u8 r.u.tz])) (fun V => (Below w.heap.size w V ∧ V.cell? ⟨gb, 0, none⟩ = some (.iface 9 (.string f)) ∧ Bx V tb r.cs ∧ (∃ l, l.length = 11 ∧ Bx V w.heap.size l)) ∧ Bx V w.heap.size r.cs ∧ Below w.heap.size w V) ⟨P4, P3, P1⟩ ?_
  clear hHeld hB5 hX5 hT5 hl5 hZ5 hTh P1 P3 P4
  rintro w10 ⟨hHeld, X6, B6⟩
  refine wpAnyH_take (i := 7) (v := ?_) (oi := { dst := some 4, op := _, type := _, pos := _, after := _, guard := none }) rfl (by kernel_rfl) (by kernel_rfl) (by kernel_rfl) (fun _ _ _ h => h) (Or.inl ⟨by kernel_rfl, ?_⟩) (by assumption) ?_
  case refine_2 => (intro w9 hSw; clear hSw; go_simp; try with_reducible rfl)
  simp only [Act.put, List.setIfInBounds_toArray, List.set_cons_zero, List.set_cons_succ]
  refine wpAnyH_done (by kernel_rfl) ?_ _
  have y0 := X6.c 0 rfl
  have y1 := X6.c 1 rfl
  have y2 := X6.c 2 rfl
  have y3 := X6.c 3 rfl
  have y4 := X6.c 4 rfl
  have y5 := X6.c 5 rfl
  have y6 := X6.c 6 rfl
  have y7 := X6.c 7 rfl
  have y8 := X6.c 8 rfl
  have y9 := X6.c 9 rfl
  have y10 := X6.c 10 rfl
  have HB : Hid (Below w.heap.size w w10) := B6
  clear X6 B6 hHeld
  go_wp2_with fail
  refine bodyPost_ret (v := .tuple #[.string f, .agg #[.int .i64 r.off, .string r.rl, .int .i64 r.sv, .string r.fm, .int .i64 r.u.y, .int .i64 r.u.mo, .int .i64 r.u.oa, .int .i64 r.u.ob, .int .i64 r.u.oc, .int .i64 r.u.ta, .int .u8 r.u.tz], .bool true]) (by simp [results, Tryz.results81, go_sem, y0, y1, y2, y3, y4, y5, y6, y7, y8, y9, y10]) rfl ⟨rfl, HB.out⟩

end Go.Proofs.YtgnfkkcagbbhmaaGreatDoor
