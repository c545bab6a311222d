/- Contract: the reference's add (an era of the last zone), over what its era answers. -/
import Derived.Test.YtgnfkkcagbbhmaaGreatDoorQpBq
namespace Go.Proofs.YtgnfkkcagbbhmaaGreatDoor
open Go.RowKit
open Sr (gen_any gen_list)
set_option linter.unusedVariables false

theorem grown_set {V V' : World} {row : Option Nat} (h : V.grownBy V' row) (a : Addr) (u : Value) : (V.setCell a u).grownBy (V'.setCell a u) row :=
  ⟨h.os, h.tape, h.output, by simpa using h.size, fun k hk hne => by
    have hk2 : k < V.heap.size := by simpa using hk
    simp only [World.setCell, Array.getElem?_modify]
    rw [h.block k hk2 hne]⟩
/-- a block that is none of the parser's is written. -/
theorem PN.off {w : World} {g B : Nat} {S : PSt} {vr vl ve vz : Value} {vs : List Value} {V : World} (h : PN w g B S vr vl ve vz vs V) {b : Nat} (hb : w.heap.size ≤ b) (hg : b ≠ g) (hn : ∀ r ∈ rowsN S vr vl ve vz vs, r.v.ownBlock ≠ some b) (i : Nat) (u : Value) : PN w g B S vr vl ve vz vs (V.setCell ⟨b, i, none⟩ u) :=
  ⟨h.low.setCell (p := ⟨b, i, none⟩) hb u, h.box.set9 hg u, h.fam.keep fun c _ _ ⟨r, hr, hc⟩ => heap_setCell_other V ⟨b, i, none⟩ c u (fun e => hn r hr (by rw [hc]; exact congrArg some e)), h.len, h.wg, h.gB, by simpa using h.BV⟩
/-- a zone's name is written as it is. -/
theorem PN.same1 {w : World} {g B : Nat} {S : PSt} {vr vl ve : Value} {vs : List Value} {V : World} {zb zc : Nat} (h : PN w g B S vr vl ve (.slice (some ⟨zb, 0, none⟩) S.zones.length zc) vs V) (j : Nat) {u : Value} (hu : (zoneXs S.zones vs)[j]? = some u) : PN w g B S vr vl ve (.slice (some ⟨zb, 0, none⟩) S.zones.length zc) vs (V.setCell ⟨zb, j, none⟩ u) := by
  have hz : B ≤ zb ∧ zb < V.heap.size := h.fam.lt (r := ⟨74, 2, .slice (some ⟨zb, 0, none⟩) S.zones.length zc, S.zones.length, zoneXs S.zones vs⟩) (List.mem_of_getElem? (i := 3) rfl) rfl
  have hF := h.fam.put (g := zb) (cap := zc) 3 (r := ⟨74, 2, .slice (some ⟨zb, 0, none⟩) S.zones.length zc, S.zones.length, zoneXs S.zones vs⟩) rfl rfl j u
  have e : (zoneXs S.zones vs).set j u = zoneXs S.zones vs := by
    apply List.ext_getElem?
    intro i
    by_cases q : j = i
    · subst q
      rw [List.getElem?_set_self (List.getElem?_eq_some_iff.1 hu).1, hu]
    · rw [List.getElem?_set_ne q]
  refine ⟨h.low.setCell (p := ⟨zb, j, none⟩) (by have := h.wB; show _ ≤ zb; omega) u, h.box.set9 (by have := h.gB; omega) u, ?_, h.len, h.wg, h.gB, by simpa using h.BV⟩
  rw [e] at hF
  exact hF
theorem infoInt : (Tryz.prog.info? 3).map (fun i => (i.zero, i.size, i.bytes)) = some (some (.int .i64 0), 1, 8) := by kernel_rfl
theorem PN.eraAt {w : World} {g B : Nat} {S : PSt} {vr vl ve vz : Value} {vs : List Value} {V : World} (h : PN w g B S vr vl ve vz vs V) {i : Nat} {z : ZnT'} {v : Value} (hz : S.zones[i]? = some z) (hv : vs[i]? = some v) : V.ownsRow B 78 11 v z.2.length (eraXs z.2) ∧ eraRowQ z v ∈ rowsN S vr vl ve vz vs := by
  have := eraRowsQ_at S.zones vs i z v hz hv
  have m : eraRowQ z v ∈ rowsN S vr vl ve vz vs := by
    unfold rowsN rowsQ
    have := List.mem_of_getElem? this
    simp [this]
  exact ⟨h.fam.1 _ m, m⟩

set_option maxRecDepth 100000 in
set_option maxHeartbeats 4000000 in
theorem radd_no (g : Nat) (n : Int) (a : Option Addr) (k c : Nat) (r : EraT) (w : World) (ER : Hid (∀ W : World, Below w.heap.size w W → Calls Tryz.prog 84 #[.slice a k c] W fun e w' => e = .returned (.tuple #[.agg #[.int .i64 r.off, .string r.rl, .int .i64 r.sv, .string r.fm, .int .i64 r.u.y, .int .i64 r.u.mo, .int .i64 r.u.oa, .int .i64 r.u.ob, .int .i64 r.u.oc, .int .i64 r.u.ta, .int .u8 r.u.tz], .bool false]) ∧ Below W.heap.size W w')) :
    Calls Tryz.prog 53 #[.pointer (some ⟨g, 0, none⟩), .int .i64 n, .slice a k c] w fun e w' => e = .returned (.int .i64 21) ∧ Below w.heap.size w w' := by
  go_enter Tryz.func53, Tryz.ntmps53
  go_wp2_with fail
  refine (ER.out _ (Below.refl _ _)).mono ?_
  rintro e W1 ⟨rfl, hb⟩
  have q : Hid (Below w.heap.size w W1) := hb
  clear hb
  go_wp2_with fail
  go_ret
  exact ⟨rfl, q.out.alloc q.out.size _⟩

set_option maxRecDepth 100000 in
set_option maxHeartbeats 4000000 in
theorem radd_run (U : World) (g B : Nat) (S : PSt) (xr xl xa xz : Value) (vs : List Value) (w : World) (h : PN U g B S xr xl xa xz vs w) (n : Int) (a : Option Addr) (k c : Nat) (r : EraT) (l : List ZnT') (z : ZnT') (hS : S.zones = l ++ [z]) (hl9 : l.length ≤ 100000) (hz12 : z.2.length ≤ 12) (res : Sum Int PSt) (HR : Hid (res = if z.2.length = 12 then .inl 3 else .inr (addF S n r))) (he9 : S.eras.length ≤ 100000) (hy : (r.u.y != 0) = decide (0 < r.u.y)) (ER : Hid (∀ W : World, Below w.heap.size w W → Calls Tryz.prog 84 #[.slice a k c] W fun e w' => e = .returned (.tuple #[.agg #[.int .i64 r.off, .string r.rl, .int .i64 r.sv, .string r.fm, .int .i64 r.u.y, .int .i64 r.u.mo, .int .i64 r.u.oa, .int .i64 r.u.ob, .int .i64 r.u.oc, .int .i64 r.u.ta, .int .u8 r.u.tz], .bool true]) ∧ Below W.heap.size W w')) :
    Calls Tryz.prog 53 #[.pointer (some ⟨g, 0, none⟩), .int .i64 n, .slice a k c] w fun e w' => TkN U g B w e w' res := by
  have HP : Hid (PN U g B S xr xl xa xz vs w) := h
  clear h
  go_enter Tryz.func53, Tryz.ntmps53
  go_wp2_with fail
  refine (ER.out _ (Below.refl _ _)).mono ?_
  rintro e W1 ⟨rfl, hb⟩
  have HP1 : Hid (PN U g B S xr xl xa xz vs W1) := HP.out.below hb
  have K1 : Hid (BW w W1) := hb
  clear hb HP ER
  obtain ⟨az, cz, hvz, hz1, hz2, hz3⟩ := own_rowP HP1.out.getZ
  have hlen : S.zones.length = l.length + 1 := by rw [hS]; simp
  obtain ⟨zr, hzr, hzB⟩ := hz3 (by omega)
  subst hvz hzr
  unfold maxLen at hz2
  have hlenI : (S.zones.length : Int) = (l.length : Int) + 1 := by omega
  have hwk : IntKind.i64.wrap ((S.zones.length : Int) - 1) = (l.length : Int) := by rw [IntKind.wrap_i64]; omega
  have hk0 : (0 : Int) ≤ (l.length : Int) := by omega
  have hk1 : (l.length : Int) < (S.zones.length : Int) := by omega
  have hk2 : l.length < S.zones.length := by omega
  have hk3 : (l.length : Int) < (l.length : Int) + 1 := by omega
  have hSl : S.zones[l.length]? = some z := by rw [hS]; simp
  obtain ⟨v, hx0, hx1, hvs⟩ := zoneXs_at _ _ l.length z HP1.out.len hSl
  obtain ⟨ea, ec, hve, he1, he2, -⟩ := own_rowP (HP1.out.eraAt hSl hvs).1
  subst hve
  obtain ⟨xb, hxb⟩ : ∃ xb, xb = W1.heap.size := ⟨_, rfl⟩
  have hxn : ∀ r9 ∈ rowsN S xr xl xa (.slice (some ⟨zr, 0, none⟩) S.zones.length cz) vs, r9.v.ownBlock ≠ some xb := fun r9 h9 e9 => by have := (HP1.out.fam.lt h9 e9).2; omega
  have HXN : Hid (∀ r9 ∈ rowsN S xr xl xa (.slice (some ⟨zr, 0, none⟩) S.zones.length cz) vs, r9.v.ownBlock ≠ some xb) := hxn
  have hzx : zr ≠ xb := fun e => hxn ⟨74, 2, (.slice (some ⟨zr, 0, none⟩) S.zones.length cz), S.zones.length, zoneXs S.zones vs⟩ (List.mem_of_getElem? (i := 3) rfl) (congrArg some e)
  have hgx : g < xb := by have := HP1.out.lt; omega
  have hUx : U.heap.size ≤ xb := by have := HP1.out.low.size; omega
  have hwx : w.heap.size ≤ xb := by have := K1.out.size; omega
  have E0 : Hid (PN U g B S xr xl xa (.slice (some ⟨zr, 0, none⟩) S.zones.length cz) vs (W1.alloc (.cells r.cs.toArray 78)) ∧ Bx (W1.alloc (.cells r.cs.toArray 78)) xb r.cs ∧ BW w (W1.alloc (.cells r.cs.toArray 78))) := ⟨HP1.out.below ((Below.refl _ _).alloc (Nat.le_refl _) _), by rw [hxb]; exact Bx.new W1 r.cs _, K1.out.below ((Below.refl _ _).alloc (Nat.le_refl _) _)⟩
  clear HP1 K1 hxn
  go_upto_region 4 with fail
  refine gen_code (fun W => (PN U g B S xr xl xa (.slice (some ⟨zr, 0, none⟩) S.zones.length cz) vs W ∧ Bx W xb r.cs ∧ BW w W)) E0.out ?_
  clear E0
  intro W2 kk
  have KK : Hid (PN U g B S xr xl xa (.slice (some ⟨zr, 0, none⟩) S.zones.length cz) vs W2 ∧ Bx W2 xb r.cs ∧ BW w W2) := kk
  clear kk
  rw [← hxb]
  clear hxb
  have c1 := KK.out.1.box.c 1 rfl
  have lt2 := KK.out.1.lt
  have z0 := KK.out.1.fam.cell 3 rfl rfl hx0
  have z1 := KK.out.1.fam.cell 3 rfl rfl hx1
  have hbw := World.block_lt_of_cell? _ _ z0
  obtain ⟨zb, hzb⟩ : ∃ zb, zb = W2.heap.size := ⟨_, rfl⟩
  have HZN : Hid (∀ r9 ∈ rowsN S xr xl xa (.slice (some ⟨zr, 0, none⟩) S.zones.length cz) vs, r9.v.ownBlock ≠ some zb) := fun r9 h9 e9 => by have := (KK.out.1.fam.lt h9 e9).2; omega
  have hgz : g < zb := by omega
  have hxz : xb < zb := by have := KK.out.2.1.1; omega
  have hzz : zr < zb := by rw [hzb]; exact hbw
  have hUz : U.heap.size ≤ zb := by omega
  have E0 : Hid (PN U g B S xr xl xa (.slice (some ⟨zr, 0, none⟩) S.zones.length cz) vs (W2.alloc (.cells #[.string z.1, (.slice ea z.2.length ec)] 74)) ∧ Bx (W2.alloc (.cells #[.string z.1, (.slice ea z.2.length ec)] 74)) zb [.string z.1, (.slice ea z.2.length ec)] ∧ Bx (W2.alloc (.cells #[.string z.1, (.slice ea z.2.length ec)] 74)) xb r.cs ∧ BW w (W2.alloc (.cells #[.string z.1, (.slice ea z.2.length ec)] 74))) := ⟨KK.out.1.below ((Below.refl _ _).alloc (Nat.le_refl _) _), by rw [hzb]; exact Bx.new W2 [.string z.1, (.slice ea z.2.length ec)] _, KK.out.2.1.alloc _, KK.out.2.2.below ((Below.refl _ _).alloc (Nat.le_refl _) _)⟩
  clear KK
  go_upto_region 6 with fail
  clear c1 lt2 z0 z1 hbw
  refine gen_code (fun W => (PN U g B S xr xl xa (.slice (some ⟨zr, 0, none⟩) S.zones.length cz) vs W ∧ Bx W zb [.string z.1, (.slice ea z.2.length ec)] ∧ Bx W xb r.cs ∧ BW w W)) E0.out ?_
  clear E0
  intro W3 kk
  have KK : Hid (PN U g B S xr xl xa (.slice (some ⟨zr, 0, none⟩) S.zones.length cz) vs W3 ∧ Bx W3 zb [.string z.1, (.slice ea z.2.length ec)] ∧ Bx W3 xb r.cs ∧ BW w W3) := kk
  clear kk
  rw [← hzb]
  clear hzb
  have d1 := KK.out.2.1.c 1 rfl
  have d9 := KK.out.2.1.1
  by_cases hz16 : z.2.length = 12
  · have HR2 : Hid (res = .inl 3) := by
      have e := HR.out
      rw [if_pos hz16] at e
      exact e
    have hz' : (12 : Int) ≤ (z.2.length : Int) := by omega
    clear hz16 HR
    go_wp2_with fail
    go_ret
    exact TkN.no HR2.out rfl KK.out.2.2.2
  · have HR2 : Hid (res = .inr (addF S n r)) := by
      have e := HR.out
      rw [if_neg hz16] at e
      exact e
    have hz : z.2.length < 12 := by omega
    clear hz16 HR
    obtain ⟨i3, hi3, mz0, mz1, mz2⟩ := info_partsP infoEraQ
    obtain ⟨i5, hi5, nz0, nz1, nz2⟩ := info_partsP infoInt
    have hz' : ¬ (12 : Int) ≤ (z.2.length : Int) := by omega
    go_upto_region 8 with fail
    have HOw : Hid (W3.ownsRow B 78 11 (.slice ea z.2.length ec) z.2.length (eraXs z.2)) := (KK.out.1.eraAt hSl hvs).1
    have HM : Hid (∀ c, ((.slice ea z.2.length ec) : Value).ownBlock = some c → c ≠ zb ∧ c ≠ xb ∧ B ≤ c) := fun c e => ⟨fun q => HZN.out _ (KK.out.1.eraAt hSl hvs).2 (by rw [← q]; exact e), fun q => HXN.out _ (KK.out.1.eraAt hSl hvs).2 (by rw [← q]; exact e), (own_ltP HOw.out e).1⟩
    have e0 := KK.out.2.2.1.c 0 rfl
    have e1 := KK.out.2.2.1.c 1 rfl
    have e2 := KK.out.2.2.1.c 2 rfl
    have e3 := KK.out.2.2.1.c 3 rfl
    have e4 := KK.out.2.2.1.c 4 rfl
    have e5 := KK.out.2.2.1.c 5 rfl
    have e6 := KK.out.2.2.1.c 6 rfl
    have e7 := KK.out.2.2.1.c 7 rfl
    have e8 := KK.out.2.2.1.c 8 rfl
    have e9 := KK.out.2.2.1.c 9 rfl
    have e10 := KK.out.2.2.1.c 10 rfl
    have e99 := KK.out.2.2.1.1
    have hgb3 := KK.out.1.lt
    go_upto_region 9 with (at_builtin; refine wpl_append_newP rfl _ _ 72 rfl B 78 i3 eraQZ 11 104 Tryz.underlying72 hi3 mz0 mz1 mz2 rfl (by decide) (.slice ea z.2.length ec) z.2.length (eraXs z.2) rfl (HOw.out.alloc _) ⟨W3.heap.size, 0, none⟩ 1 r.cs rfl rfl (fun j u hj => by rw [show (⟨W3.heap.size, 0, none⟩ : Addr).add j = ⟨W3.heap.size, j, none⟩ from by rw [Addr.add_lit]; simp]; exact ((Bx.new W3 r.cs 78).2 j u hj).1) (era_oneP r) (by unfold maxLen; omega) (by omega) (by have := KK.out.1.BV; simp; omega) ?_
                           intro v' w4 hown' hgrow hnew
                           obtain ⟨sq', sn', sc', hv'⟩ := own_sliceP hown'
                           subst hv'
                           have hb3 : Below W3.heap.size W3 (W3.alloc (.cells r.cs.toArray 78)) := (Below.refl _ _).alloc (Nat.le_refl _) _
                           have hq2 : Bx w4 zb [.string z.1, (.slice ea z.2.length ec)] := bx_growP (KK.out.2.1.below hb3) hgrow (fun e => (HM.out zb e).1 rfl)
                           have hq3 : Bx w4 xb r.cs := bx_growP (KK.out.2.2.1.below hb3) hgrow (fun e => (HM.out xb e).2.1 rfl)
                           have hvn : ∀ c, ((.slice sq' sn' sc') : Value).ownBlock = some c → c ≠ zb := fun c e => by
                             rcases hnew c e with q | q
                             · exact (HM.out c q).1
                             · have := KK.out.2.1.1; rw [q]; simp; omega
                           have HQ : Hid (∃ V4, PN U g B S xr xl xa (.slice (some ⟨zr, 0, none⟩) S.zones.length cz) vs V4 ∧ V4.grownBy (w4.setCell ⟨zb, 1, none⟩ (.slice sq' sn' sc')) ((.slice ea z.2.length ec) : Value).ownBlock ∧ (∀ c, ((.slice sq' sn' sc') : Value).ownBlock = some c → ((.slice ea z.2.length ec) : Value).ownBlock = some c ∨ c = V4.heap.size) ∧ (w4.setCell ⟨zb, 1, none⟩ (.slice sq' sn' sc')).ownsRow B 78 11 (.slice sq' sn' sc') (z.2.length + 1) (eraXs z.2 ++ r.cs) ∧ Bx (w4.setCell ⟨zb, 1, none⟩ (.slice sq' sn' sc')) zb [.string z.1, (.slice sq' sn' sc')] ∧ Bx (w4.setCell ⟨zb, 1, none⟩ (.slice sq' sn' sc')) xb r.cs) := ⟨((W3.alloc (.cells r.cs.toArray 78)).setCell ⟨zb, 1, none⟩ (.slice sq' sn' sc')), (KK.out.1.below hb3).off hUz (by omega) HZN.out 1 _, grown_set hgrow _ _, fun c e => by rcases hnew c e with q | q; exact .inl q; exact .inr (by rw [q]; simp), own_keepP hown' (fun c e _ => heap_setCell_other w4 ⟨zb, 1, none⟩ c _ (hvn c e)), hq2.set1 1 _ (by simp), hq3.set9 (by omega) _⟩
                           have c2 := hq2.c 1 rfl
                           have z2 := hq2.f 1 rfl
                           have h4 := hq2.1
                           clear hown' hgrow hnew hq2 hq3 hb3 hvn)
    refine gen_code (fun W => (∃ V4, PN U g B S xr xl xa (.slice (some ⟨zr, 0, none⟩) S.zones.length cz) vs V4 ∧ V4.grownBy W ((.slice ea z.2.length ec) : Value).ownBlock ∧ (∀ c, ((.slice sq' sn' sc') : Value).ownBlock = some c → ((.slice ea z.2.length ec) : Value).ownBlock = some c ∨ c = V4.heap.size) ∧ W.ownsRow B 78 11 (.slice sq' sn' sc') (z.2.length + 1) (eraXs z.2 ++ r.cs) ∧ Bx W zb [.string z.1, (.slice sq' sn' sc')] ∧ Bx W xb r.cs)) HQ.out ?_
    clear HQ HOw c2 z2 h4 d1 d9 e99 hgb3 e0 e1 e2 e3 e4 e5 e6 e7 e8 e9 e10 KK
    intro W5 kk
    obtain ⟨V4, p1, p2, p3, p4, p5, p6⟩ := kk
    have HGB : Hid (Bx W5 g (boxN xr xl xa (.slice (some ⟨zr, 0, none⟩) S.zones.length cz) S.op)) := bx_growP p1.box p2 (fun e => by have := (HM.out g e).2.2; have := p1.gB; omega)
    have hvz9 : ((.slice ea z.2.length ec) : Value).ownBlock ≠ some zr := fun q => p1.fam.2 (4 + l.length) 3 (eraRowQ z (.slice ea z.2.length ec)) ⟨74, 2, (.slice (some ⟨zr, 0, none⟩) S.zones.length cz), S.zones.length, zoneXs S.zones vs⟩ (by
      show (rowsN S xr xl xa (.slice (some ⟨zr, 0, none⟩) S.zones.length cz) vs)[4 + l.length]? = _
      rw [show 4 + l.length = l.length + 1 + 1 + 1 + 1 by omega]
      unfold rowsN rowsQ
      simp only [List.getElem?_cons_succ, List.cons_append, List.nil_append]
      exact eraRowsQ_at S.zones vs l.length z _ hSl hvs) rfl (by omega) zr q rfl
    have z0 : W5.cell? ⟨zr, l.length * 2, none⟩ = some (.string z.1) := p2.cell (a := ⟨zr, l.length * 2, none⟩) (p1.fam.cell 3 rfl rfl hx0) (fun e => hvz9 e.symm)
    have z1 : W5.cell? ⟨zr, l.length * 2 + 1, none⟩ = some (.slice ea z.2.length ec) := p2.cell (a := ⟨zr, l.length * 2 + 1, none⟩) (p1.fam.cell 3 rfl rfl hx1) (fun e => hvz9 e.symm)
    have hzr4 := World.block_lt_of_cell? _ _ (p1.fam.cell 3 rfl rfl hx0)
    have hfz : ∀ j, W5.frozen? ⟨zr, j, none⟩ = false := fun j => (World.frozen?_of_block (w := V4) (a := ⟨zr, j, none⟩) (p2.block zr hzr4 (fun e => hvz9 e.symm))).trans (p1.getZ.frozenAt j)
    have HTH : Hid (W5.there zr (l.length * 2) 2) := fun j hj => by
      match j, hj with
      | 0, _ => exact ⟨by rw [Nat.add_zero, z0]; rfl, hfz _⟩
      | 1, _ => exact ⟨by rw [z1]; rfl, hfz _⟩
    have HFN : Hid (PN U g B { S with zones := addE S.zones r } xr xl xa (.slice (some ⟨zr, 0, none⟩) S.zones.length cz) (vs.dropLast ++ [(.slice sq' sn' sc')]) (W5.setCells zr (l.length * 2) [.string z.1, (.slice sq' sn' sc')])) := by
      have hvq : vs = vs.dropLast ++ [(.slice ea z.2.length ec)] := by
        have hvl := p1.len
        have : vs[vs.length - 1]? = some (.slice ea z.2.length ec) := by rw [hvl, hlen, Nat.add_sub_cancel]; exact hvs
        have hne : vs ≠ [] := fun e => by rw [e] at hvs; simp at hvs
        rw [← List.getLast?_eq_getElem?, List.getLast?_eq_some_getLast hne] at this
        have h2 := List.dropLast_concat_getLast hne
        rw [Option.some.inj this] at h2
        exact h2.symm
      exact (p1.same1 (l.length * 2) hx0).erad hS hvq r (v' := (.slice sq' sn' sc')) (grown_set p2 ⟨zr, l.length * 2, none⟩ _) (fun c e => by rcases p3 c e with q | q; exact .inl q; exact .inr (by rw [q]; simp)) (own_keepP p4 (fun c e hc => heap_setCell_other W5 ⟨zr, l.length * 2, none⟩ c _ (fun q => by
        rcases p3 c e with q2 | q2
        · exact hvz9 (by rw [q2]; exact congrArg some q)
        · have : zr < V4.heap.size := hzr4
          simp only at q; omega))) rfl
    have HXB : Hid (Bx W5 xb r.cs) := p6
    have HZB : Hid (Bx W5 zb [.string z.1, (.slice sq' sn' sc')]) := p5
    clear p1 p2 p3 p4 p5 p6 z0 z1 hfz hvz9 hzr4
    have HXA : Hid (xa.ownBlock ≠ some xb) := fun e => HXN.out _ (List.mem_cons_self) e
    have hgz2 : zr ≠ g := by have := HFN.out.gB; omega
    go_cut [] (fun wx => (PN U g B { S with zones := addE S.zones r } xr xl xa (.slice (some ⟨zr, 0, none⟩) S.zones.length cz) (vs.dropLast ++ [(.slice sq' sn' sc')]) wx ∧ Bx wx xb r.cs))
    case first =>
      refine wp_region_held_drew (S := fun V => (Bx V zb [.string z.1, (.slice sq' sn' sc')] ∧ Bx V g (boxN xr xl xa (.slice (some ⟨zr, 0, none⟩) S.zones.length cz) S.op) ∧ Bx V xb r.cs)) (by kernel_rfl) ⟨HZB.out, HGB.out, HXB.out⟩ (fun hHeld => ?_)
      refine wpAnyH_take (i := 0) (v := ?_) (oi := { dst := some 43, op := _, type := _, pos := _, after := _, guard := none }) rfl (by kernel_rfl) (by kernel_rfl) (by kernel_rfl) (fun _ _ _ h => h) (Or.inl ⟨by kernel_rfl, ?_⟩) (by assumption) ?_
      case refine_2 => (intro w9 hSw; clear hSw; go_simp; try with_reducible rfl)
      simp only [Act.put, List.setIfInBounds_toArray, List.set_cons_zero, List.set_cons_succ]
      refine wpAnyH_take (i := 1) (v := ?_) (oi := { dst := some 44, op := _, type := _, pos := _, after := _, guard := none }) rfl (by kernel_rfl) (by kernel_rfl) (by kernel_rfl) (fun _ _ _ h => h) (Or.inl ⟨by kernel_rfl, ?_⟩) (by assumption) ?_
      case refine_2 => (intro w9 hSw; clear hSw; go_simp; try with_reducible rfl)
      simp only [Act.put, List.setIfInBounds_toArray, List.set_cons_zero, List.set_cons_succ]
      refine wpAnyH_take (i := 2) (v := ?_) (oi := { dst := some 45, op := _, type := _, pos := _, after := _, guard := none }) rfl (by kernel_rfl) (by kernel_rfl) (by kernel_rfl) (fun _ _ _ h => h) (Or.inl ⟨by kernel_rfl, ?_⟩) (by assumption) ?_
      case refine_2 => (intro w9 hSw; clear hSw; go_simp; try with_reducible rfl)
      simp only [Act.put, List.setIfInBounds_toArray, List.set_cons_zero, List.set_cons_succ]
      refine wpAnyH_take (i := 3) (v := ?_) (oi := { dst := some 46, op := _, type := _, pos := _, after := _, guard := none }) rfl (by kernel_rfl) (by kernel_rfl) (by kernel_rfl) (fun _ _ _ h => h) (Or.inl ⟨by kernel_rfl, ?_⟩) (by assumption) ?_
      case refine_2 => (intro w9 hSw; clear hSw; go_simp; try with_reducible rfl)
      simp only [Act.put, List.setIfInBounds_toArray, List.set_cons_zero, List.set_cons_succ]
      refine wpAnyH_take (i := 4) (v := ?_) (oi := { dst := some 47, op := _, type := _, pos := _, after := _, guard := none }) rfl (by kernel_rfl) (by kernel_rfl) (by kernel_rfl) (fun _ _ _ h => h) (Or.inl ⟨by kernel_rfl, ?_⟩) (by assumption) ?_
      case refine_2 => (intro w9 hSw; have q0 := hSw.1.c 0 rfl; have q1 := hSw.1.c 1 rfl; have q2 := hSw.2.1.c 1 rfl; have q3 := hSw.2.1.1; clear hSw; go_simp; try with_reducible rfl)
      simp only [Act.put, List.setIfInBounds_toArray, List.set_cons_zero, List.set_cons_succ]
      refine wpAnyH_take (i := 5) (v := ?_) (oi := { dst := some 48, op := _, type := _, pos := _, after := _, guard := none }) rfl (by kernel_rfl) (by kernel_rfl) (by kernel_rfl) (fun _ _ _ h => h) (Or.inl ⟨by kernel_rfl, ?_⟩) (by assumption) ?_
      case refine_2 => (intro w9 hSw; clear hSw; go_simp; try with_reducible rfl)
      simp only [Act.put, List.setIfInBounds_toArray, List.set_cons_zero, List.set_cons_succ]
      refine wpAnyH_take (i := 6) (v := ?_) (oi := { dst := some 49, op := _, type := _, pos := _, after := _, guard := none }) rfl (by kernel_rfl) (by kernel_rfl) (by kernel_rfl) (fun _ _ _ h => h) (Or.inl ⟨by kernel_rfl, ?_⟩) (by assumption) ?_
      case refine_2 => (intro w9 hSw; have q0 := hSw.1.c 0 rfl; have q1 := hSw.1.c 1 rfl; have q2 := hSw.2.1.c 1 rfl; have q3 := hSw.2.1.1; clear hSw; go_simp; try with_reducible rfl)
      simp only [Act.put, List.setIfInBounds_toArray, List.set_cons_zero, List.set_cons_succ]
      refine wpAnyH_take (i := 7) (v := ?_) (oi := { dst := some 50, op := _, type := _, pos := _, after := _, guard := none }) rfl (by kernel_rfl) (by kernel_rfl) (by kernel_rfl) (fun _ _ _ h => h) (Or.inl ⟨by kernel_rfl, ?_⟩) (by assumption) ?_
      case refine_2 => (intro w9 hSw; clear hSw; go_simp; try with_reducible rfl)
      simp only [Act.put, List.setIfInBounds_toArray, List.set_cons_zero, List.set_cons_succ]
      refine wpAnyH_ready (rs := [8]) (by kernel_rfl) (by simp) (AllReadyH.cons (o := { dst := none, op := _, type := _, pos := _, after := _, guard := none }) rfl (fun K hK => ?_) AllReadyH.nil)
      refine (if_pos (by kernel_rfl)).mpr (wp_store_mid 74 _ _ rfl zr (l.length * 2) #[.string z.1, (.slice sq' sn' sc')] rfl rfl HTH.out (by kernel_rfl) (all_oneCell_toArray (cs := [.string z.1, (.slice sq' sn' sc')]) (by simp only [List.forall_mem_cons]; exact ⟨rfl, rfl, fun _ h => nomatch h⟩)) (hK.out _ _ ⟨hHeld.1.setOther (by omega) _ _, hHeld.2.1.setOther (by omega) _ _, hHeld.2.2.setOther (by omega) _ _⟩ (fun hHeld => ?_)))
      clear hK K HTH
      refine wpAnyH_done (by kernel_rfl) ?_ _
      go_wp2_with fail
      go_meet
      case rel => exact ⟨HFN.out.drew, hHeld.2.2⟩
    case rest =>
      have KK : Hid (PN U g B { S with zones := addE S.zones r } xr xl xa (.slice (some ⟨zr, 0, none⟩) S.zones.length cz) (vs.dropLast ++ [(.slice sq' sn' sc')]) wc ∧ Bx wc xb r.cs) := hcut
      clear hcut HFN HXB HZB HGB HTH
      obtain ⟨W6, hW6⟩ : ∃ W, W = wc := ⟨_, rfl⟩
      rw [← hW6] at KK
      rw [← hW6]
      clear hW6
      have HOa : Hid (W6.ownsRow B 3 1 xa S.eras.length (atXs S.eras)) := KK.out.1.getE
      obtain ⟨aq, an, ac, hxa⟩ := own_sliceP HOa.out
      subst hxa
      have q3 := KK.out.1.box.c 3 rfl
      have q9 := KK.out.1.lt
      go_upto_region 11 with (at_builtin; refine wpl_append_newP rfl _ _ 61 rfl B 3 i5 (.int .i64 0) 1 8 Tryz.underlying61 hi5 nz0 nz1 nz2 rfl (by decide) (.slice aq an ac) S.eras.length (atXs S.eras) rfl (HOa.out.alloc _) ⟨W6.heap.size, 0, none⟩ 1 [.int .i64 n] rfl rfl (fun j u hj => by rw [show (⟨W6.heap.size, 0, none⟩ : Addr).add j = ⟨W6.heap.size, j, none⟩ from by rw [Addr.add_lit]; simp]; exact ((Bx.new W6 [.int .i64 n] 3).2 j u hj).1) (by intro u hu; simp at hu; subst hu; rfl) (by unfold maxLen; omega) (by omega) (by have := KK.out.1.BV; simp; omega) ?_
                              intro v' w4 hown' hgrow hnew
                              obtain ⟨tq', tn', tc', hv'⟩ := own_sliceP hown'
                              subst hv'
                              have hb3 : Below W6.heap.size W6 (W6.alloc (.cells #[.int .i64 n] 3)) := (Below.refl _ _).alloc (Nat.le_refl _) _
                              have HB4 := (KK.out.1.below hb3).grownBox hgrow (fun c e => (own_ltP HOa.out e).1)
                              have hq3 : Bx w4 xb r.cs := bx_growP (KK.out.2.below hb3) hgrow (fun e => HXA.out e)
                              have HQ : Hid (PN U g B { { S with zones := addE S.zones r } with eras := S.eras ++ [(n, r.rl)] } xr xl (.slice tq' tn' tc') (.slice (some ⟨zr, 0, none⟩) S.zones.length cz) (vs.dropLast ++ [(.slice sq' sn' sc')]) (w4.setCell ⟨g, 3, none⟩ (.slice tq' tn' tc')) ∧ Bx (w4.setCell ⟨g, 3, none⟩ (.slice tq' tn' tc')) xb r.cs) := ⟨(KK.out.1.below hb3).lined (n, r.rl) hgrow hnew hown', hq3.set9 (by omega) _⟩
                              have c2 := HB4.c 3 rfl
                              have z2 := HB4.f 3 rfl
                              have h4 := HB4.1
                              clear hown' hgrow hnew hq3 hb3 HB4)
      refine gen_code (fun W => (PN U g B { { S with zones := addE S.zones r } with eras := S.eras ++ [(n, r.rl)] } xr xl (.slice tq' tn' tc') (.slice (some ⟨zr, 0, none⟩) S.zones.length cz) (vs.dropLast ++ [(.slice sq' sn' sc')]) W ∧ Bx W xb r.cs)) HQ.out ?_
      clear HQ HOa c2 z2 h4 q3 q9 KK
      intro W7 kk
      have KK : Hid (PN U g B { { S with zones := addE S.zones r } with eras := S.eras ++ [(n, r.rl)] } xr xl (.slice tq' tn' tc') (.slice (some ⟨zr, 0, none⟩) S.zones.length cz) (vs.dropLast ++ [(.slice sq' sn' sc')]) W7 ∧ Bx W7 xb r.cs) := kk
      clear kk
      have q4 := KK.out.1.box.c 4 rfl
      have z4 := KK.out.1.box.f 4 rfl
      have q9 := KK.out.1.lt
      have y4 := KK.out.2.c 4 rfl
      have y9 := KK.out.2.1
      have HF : Hid (PN U g B (addF S n r) xr xl (.slice tq' tn' tc') (.slice (some ⟨zr, 0, none⟩) S.zones.length cz) (vs.dropLast ++ [(.slice sq' sn' sc')]) (W7.setCell ⟨g, 4, none⟩ (.bool (decide (0 < r.u.y))))) := by
        have := KK.out.1.opened (r.u.y != 0)
        rw [hy] at this
        unfold addF
        rw [hy]
        exact this
      clear KK
      go_wp2_with fail
      go_ret
      exact TkN.yes HR2.out rfl HF.out

end Go.Proofs.YtgnfkkcagbbhmaaGreatDoor
