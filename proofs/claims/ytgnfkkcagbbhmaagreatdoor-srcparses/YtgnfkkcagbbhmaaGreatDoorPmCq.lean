/- Contracts: src's parser: takeRule, over what readRule answers. -/
import Derived.Test.YtgnfkkcagbbhmaaGreatDoorPmAq
import Derived.Test.YtgnfkkcagbbhmaaGreatDoorPmBq
namespace Go.Proofs.YtgnfkkcagbbhmaaGreatDoor
open Go.RowKit
open Sr (gen_any gen_list)
set_option linter.unusedVariables false

theorem info_partsP {P : Program} {e : TypeId} {z : Value} {s b : Nat} (h : (P.info? e).map (fun i => (i.zero, i.size, i.bytes)) = some (some z, s, b)) : ∃ i, P.info? e = some i ∧ i.zero = some z ∧ i.size = s ∧ i.bytes = b := by
  cases hi : P.info? e with
  | none => rw [hi] at h; cases h
  | some i => rw [hi] at h; simp at h; exact ⟨i, rfl, h.1, h.2.1, h.2.2⟩
theorem bx_growP {W W' : World} {b : Nat} {row : Option Nat} {l : List Value} (h : Bx W b l) (hg : W.grownBy W' row) (hb : row ≠ some b) : Bx W' b l := by
  have e := hg.block b h.1 (fun e => hb e.symm)
  exact ⟨Nat.lt_of_lt_of_le h.1 hg.size, fun i v hv => ⟨(World.cell?_of_block (w := W) e).trans (h.2 i v hv).1, (World.frozen?_of_block (w := W) e).trans (h.2 i v hv).2⟩⟩
theorem len_S {P : Program} {t K E : TypeId} (ht : P.underlying t = some (.map K E)) {W : World} {b n : Nat} {f : ByteArray → Int} (h : MapS W b n f) (ty : TypeId) : (Builtin.len_ #[t] ty #[.map (some b)]).run P W = .ok (.int .i64 n) W := by
  obtain ⟨es, clock, hb, hsz, _⟩ := h
  simp [Builtin.len_, run_underlying ht, MapKept.run_getObj_map hb, goInt, Result.andThen, hsz]
theorem append_newP {P : Program} (w : World) (base : Nat) (t ty e : TypeId) (i : TypeInfo) (z : Value) (size bytes : Nat) (ht : P.underlying t = some (.slice e)) (hi : P.info? e = some i) (hz : i.zero = some z)
    (hsize : i.size = size) (hby : i.bytes = bytes) (hzs : z.cells.size = size) (hsz : 0 < size)
    (v : Value) (n : Nat) (xs : List Value) (hown : w.ownsRow base e size v n xs)
    (a : Addr) (c : Nat) (news : List Value) (hl : news.length = 1 * size) (hnews : ∀ j u, news[j]? = some u → w.cell? (a.add j) = some u) (h1 : ∀ u ∈ news, u.oneCell' = true)
    (h63 : n + 1 ≤ maxLen) (hbytes : (n + 1) * bytes ≤ 140737488355328) (hbase : base ≤ w.heap.size) :
    ∃ v' w', (Builtin.append_ #[t, t] ty #[v, .slice (some a) 1 c]).run P w = .ok v' w' ∧ w'.ownsRow base e size v' (n + 1) (xs ++ news) ∧ w.grownBy w' v.ownBlock ∧ (∀ k, v'.ownBlock = some k → v.ownBlock = some k ∨ k = w.heap.size) := by
  obtain ⟨v', w', hr, h2, h3, _⟩ := run_append_own (P := P) w base t ty e i z size bytes ht hi hz hsize hby hzs hsz v n xs hown a 1 c news hl hnews h1 h63 hbytes hbase
  refine ⟨v', w', hr, h2, h3, fun k hk => ?_⟩
  subst hsize
  subst hby
  have hsmall : n + 1 ≤ 9223372036854775807 := by simp only [maxLen] at h63; omega
  rcases hown.2 with ⟨rfl, rfl⟩ | ⟨g, cap, cur, rfl, hbg, hg, hnc, hcm, hcs, htake⟩
  · have hr2 := run_append_nil (P := P) w t ty e i z ht hi hz a 1 c news hl hnews (by omega) (by omega) (by have hb := hbytes; simp only [Nat.zero_add] at hb; omega)
    rw [hr2] at hr
    cases hr; cases hk; exact .inr rfl
  · by_cases hroom : n + 1 ≤ cap
    · have hfit : n * i.size + news.length ≤ cur.size := by rw [hl, hcs, ← Nat.add_mul]; exact Nat.mul_le_mul_right _ hroom
      have hr2 := run_append_room (P := P) w t ty e i ht hi g n cap cur hg a 1 c news hl hnews h1 hroom hfit
      rw [hr2] at hr
      cases hr; exact .inl hk
    · have hr2 := run_append_grow (P := P) w t ty e i z ht hi hz ⟨g, 0, none⟩ n cap xs hown.1 (hown.cells (g := g) rfl) a 1 c news hl hnews (by omega) (by omega) (growslice_fits (by omega) hbytes)
      rw [hr2] at hr
      cases hr; cases hk; exact .inr rfl
theorem wp_append_newP {P : Program} {w : World} {o : Oper} {a : Act} {K : Act → World → Prop} {Q : Exit → Act → World → Prop} (s x : Operand) (t : TypeId)
    (ho : o.op = .call { callee := .builtin .append, args := #[s, x], argTypes := #[t, t] })
    (base : Nat) (e : TypeId) (i : TypeInfo) (z : Value) (size bytes : Nat) (ht : P.underlying t = some (.slice e)) (hi : P.info? e = some i) (hz : i.zero = some z)
    (hsize : i.size = size) (hby : i.bytes = bytes) (hzs : z.cells.size = size) (hsz : 0 < size)
    (v : Value) (n : Nat) (xs : List Value) (hs : a.eval s = v) (hown : w.ownsRow base e size v n xs)
    (ad : Addr) (c : Nat) (news : List Value) (hx : a.eval x = .slice (some ad) 1 c) (hl : news.length = 1 * size) (hnews : ∀ j u, news[j]? = some u → w.cell? (ad.add j) = some u) (h1 : ∀ u ∈ news, u.oneCell' = true)
    (h63 : n + 1 ≤ maxLen) (hbytes : (n + 1) * bytes ≤ 140737488355328) (hbase : base ≤ w.heap.size)
    (h : ∀ v' w', w'.ownsRow base e size v' (n + 1) (xs ++ news) → w.grownBy w' v.ownBlock → (∀ k, v'.ownBlock = some k → v.ownBlock = some k ∨ k = w.heap.size) → K (a.put o.dst v') w') : o.wp P a w K Q := by
  obtain ⟨v', w', hr, h2, h3, h4⟩ := append_newP (P := P) w base t o.type e i z size bytes ht hi hz hsize hby hzs hsz v n xs hown ad c news hl hnews h1 h63 hbytes hbase
  unfold Oper.wp
  simp [execOp, ho, resolve, invoke, builtin, hs, hx, hr, Result.andThen]
  exact h v' w' h2 h3 h4

def ruleZ : Value := .agg #[.string ByteArray.empty, .int .i64 0, .int .i64 0, .int .i64 0, .int .i64 0, .int .i64 0, .int .i64 0, .int .i64 0, .int .u8 0, .int .i64 0, .string ByteArray.empty]
theorem infoRule : (Tryz.prog.info? 85).map (fun i => (i.zero, i.size, i.bytes)) = some (some ruleZ, 11, 104) := by kernel_rfl
theorem rule_oneP (r : RuleT) : ∀ u ∈ r.cs, u.oneCell' = true := by
  simp only [RuleT.cs, List.forall_mem_cons]
  exact ⟨rfl, rfl, rfl, rfl, rfl, rfl, rfl, rfl, rfl, rfl, rfl, fun _ h => nomatch h⟩
theorem own_sliceP {w : World} {base : Nat} {e : TypeId} {size : Nat} {v : Value} {n : Nat} {xs : List Value} (h : w.ownsRow base e size v n xs) : ∃ sq sn sc, v = .slice sq sn sc := by
  rcases h.2 with ⟨a, _⟩ | ⟨g, cap, cur, a, _⟩
  · exact ⟨_, _, _, a⟩
  · exact ⟨_, _, _, a⟩
theorem Bx.set9 {W : World} {b g : Nat} {l : List Value} (h : Bx W b l) (hne : g ≠ b) {j : Nat} (v : Value) : Bx (W.setCell ⟨g, j, none⟩ v) b l := by
  have e : (W.setCell ⟨g, j, none⟩ v).heap[b]? = W.heap[b]? := heap_setCell_other W ⟨g, j, none⟩ b v (fun e => hne e.symm)
  exact ⟨by have := h.1; simpa using this, fun i u q => ⟨(World.cell?_of_block (w := W) e).trans (h.2 i u q).1, (World.frozen?_of_block (w := W) e).trans (h.2 i u q).2⟩⟩
theorem PM.grownBox {w : World} {g m B : Nat} {S : PSt} {vr vl ve vz : Value} {vs : List Value} {V V' : World} (h : PM w g m B S vr vl ve vz vs V) {row : Option Nat} (hg : V.grownBy V' row) (hr : ∀ c, row = some c → B ≤ c) : Bx V' g (boxP m vr vl ve vz S.op) :=
  bx_growP h.box hg (fun e => by have := hr g e; have := h.gB; omega)

set_option maxRecDepth 100000 in
set_option maxHeartbeats 1000000 in
theorem takeRule_no (n : Int) (fb fo k c : Nat) (r : RuleT) (A : Option Addr) (hA : Hid ((if c = 1 then some (⟨fb, fo, none⟩ : Addr) else some ⟨fb, fo + 1, none⟩) = A)) (hkc : k + 1 ≤ c) (g : Nat) (V : World)
    (RR : Hid (∀ W : World, Below V.heap.size V W → Calls Tryz.prog 80 #[.slice A k (c - 1)] W fun e W' => e = .returned (.tuple #[.agg #[.string r.nm, .int .i64 r.fr, .int .i64 r.tt, .int .i64 r.mo, .int .i64 r.oa, .int .i64 r.ob, .int .i64 r.oc, .int .i64 r.ta, .int .u8 r.tz, .int .i64 r.sv, .string r.lt], .bool false]) ∧ Below W.heap.size W W')) :
    Calls Tryz.prog 49 #[.pointer (some ⟨g, 0, none⟩), .agg #[.int .i64 n, .slice (some ⟨fb, fo, none⟩) (k + 1) c]] V fun e W' => e = .returned (.int .i64 21) ∧ Below V.heap.size V W' := by
  have h1 : (1 : Int) ≤ (k : Int) + 1 := by omega
  have h2 : (k : Int) + 1 ≤ (c : Int) := by omega
  have h3 : (1 : Int) ≤ (c : Int) := by omega
  have B1 : Hid (Below V.heap.size V (V.alloc (.cells #[.int .i64 n, .slice (some ⟨fb, fo, none⟩) (k + 1) c] 54))) := (Below.refl _ _).alloc (Nat.le_refl _) _
  have hA2 : _ = _ := hA.out
  go_enter Tryz.func49, Tryz.ntmps49
  go_wp2_with fail
  refine (RR.out _ B1.out).mono ?_
  rintro e W1 ⟨rfl, hb⟩
  go_wp2
  go_ret
  have q : Below V.heap.size V W1 := NBs hb
  exact ⟨rfl, q.alloc q.size _⟩

set_option maxRecDepth 100000 in
set_option maxHeartbeats 1000000 in
theorem takeRule_size (n : Int) (fb fo k c : Nat) (r : RuleT) (A : Option Addr) (hA : Hid ((if c = 1 then some (⟨fb, fo, none⟩ : Addr) else some ⟨fb, fo + 1, none⟩) = A)) (hkc : k + 1 ≤ c) (w : World) (g m B : Nat) (S : PSt) (vr vl ve vz : Value) (vs : List Value) (V : World) (h : PM w g m B S vr vl ve vz vs V) (hz : S.cnt r.nm = 16 ∨ (S.cnt r.nm = 0 ∧ S.dn = 16))
    (RR : Hid (∀ W : World, Below V.heap.size V W → Calls Tryz.prog 80 #[.slice A k (c - 1)] W fun e W' => e = .returned (.tuple #[.agg #[.string r.nm, .int .i64 r.fr, .int .i64 r.tt, .int .i64 r.mo, .int .i64 r.oa, .int .i64 r.ob, .int .i64 r.oc, .int .i64 r.ta, .int .u8 r.tz, .int .i64 r.sv, .string r.lt], .bool true]) ∧ Below W.heap.size W W')) :
    Calls Tryz.prog 49 #[.pointer (some ⟨g, 0, none⟩), .agg #[.int .i64 n, .slice (some ⟨fb, fo, none⟩) (k + 1) c]] V fun e W' => e = .returned (.int .i64 3) ∧ Below V.heap.size V W' := by
  have h1 : (1 : Int) ≤ (k : Int) + 1 := by omega
  have h2 : (k : Int) + 1 ≤ (c : Int) := by omega
  have h3 : (1 : Int) ≤ (c : Int) := by omega
  have B1 : Hid (Below V.heap.size V (V.alloc (.cells #[.int .i64 n, .slice (some ⟨fb, fo, none⟩) (k + 1) c] 54))) := (Below.refl _ _).alloc (Nat.le_refl _) _
  have hA2 : _ = _ := hA.out
  go_enter Tryz.func49, Tryz.ntmps49
  go_wp2_with fail
  refine (RR.out _ B1.out).mono ?_
  rintro e W1 ⟨rfl, hb⟩
  have hB1 : Hid (Below V.heap.size V W1) := NBs hb
  obtain ⟨rb, hrb⟩ : ∃ rb, rb = W1.heap.size := ⟨_, rfl⟩
  have hVrb : V.heap.size ≤ rb := by rw [hrb]; exact hB1.out.size
  have E0 : Hid (Below V.heap.size V (W1.alloc (.cells #[.string r.nm, .int .i64 r.fr, .int .i64 r.tt, .int .i64 r.mo, .int .i64 r.oa, .int .i64 r.ob, .int .i64 r.oc, .int .i64 r.ta, .int .u8 r.tz, .int .i64 r.sv, .string r.lt] 85)) ∧ PM w g m B S vr vl ve vz vs (W1.alloc (.cells #[.string r.nm, .int .i64 r.fr, .int .i64 r.tt, .int .i64 r.mo, .int .i64 r.oa, .int .i64 r.ob, .int .i64 r.oc, .int .i64 r.ta, .int .u8 r.tz, .int .i64 r.sv, .string r.lt] 85)) ∧ Bx (W1.alloc (.cells #[.string r.nm, .int .i64 r.fr, .int .i64 r.tt, .int .i64 r.mo, .int .i64 r.oa, .int .i64 r.ob, .int .i64 r.oc, .int .i64 r.ta, .int .u8 r.tz, .int .i64 r.sv, .string r.lt] 85)) rb r.cs) := ⟨hB1.out.alloc hB1.out.size _, h.below (hB1.out.alloc hB1.out.size _), by rw [hrb]; exact Bx.new W1 r.cs _⟩
  clear hb hB1 B1 hA2 h1 h2 h3
  go_upto_region 4 with fail
  refine gen_code (fun W => (Below V.heap.size V W ∧ PM w g m B S vr vl ve vz vs W ∧ Bx W rb r.cs)) E0.out ?_
  clear E0
  intro w1 hE
  have KK : Hid (Below V.heap.size V w1 ∧ PM w g m B S vr vl ve vz vs w1 ∧ Bx w1 rb r.cs) := hE
  clear hE
  rw [← hrb]
  clear hrb
  go_wp2_with fail
  refine wp_region_held_drew (S := fun V' => (Below V.heap.size V V' ∧ PM w g m B S vr vl ve vz vs V' ∧ Bx V' rb r.cs)) (by kernel_rfl) ⟨KK.out.1.drew, KK.out.2.1.drew, KK.out.2.2⟩ (fun hHeld => ?_)
  refine gen_any (fun V' => (Below V.heap.size V V' ∧ PM w g m B S vr vl ve vz vs V' ∧ Bx V' rb r.cs)) hHeld ?_
  clear hHeld KK
  rintro w2 hHeld
  refine wpAnyH_take (i := 0) (v := ?_) (oi := { dst := some 17, op := _, type := _, pos := _, after := _, guard := none }) rfl (by kernel_rfl) (by kernel_rfl) (by kernel_rfl) (fun _ _ _ h => h) (Or.inl ⟨by kernel_rfl, ?_⟩) (by assumption) ?_
  case refine_2 => (intro w9 hSw; clear hSw; go_simp; try with_reducible rfl)
  simp only [Act.put, List.setIfInBounds_toArray, List.set_cons_zero, List.set_cons_succ]
  refine wpAnyH_take (i := 1) (v := ?_) (oi := { dst := some 18, op := _, type := _, pos := _, after := _, guard := none }) rfl (by kernel_rfl) (by kernel_rfl) (by kernel_rfl) (fun _ _ _ h => h) (Or.inl ⟨by kernel_rfl, ?_⟩) (by assumption) ?_
  case refine_2 => (intro w9 hSw; clear hSw; go_simp; try with_reducible rfl)
  simp only [Act.put, List.setIfInBounds_toArray, List.set_cons_zero, List.set_cons_succ]
  refine wpAnyH_take (i := 2) (v := ?_) (oi := { dst := some 19, op := _, type := _, pos := _, after := _, guard := none }) rfl (by kernel_rfl) (by kernel_rfl) (by kernel_rfl) (fun _ _ _ h => h) (Or.inl ⟨by kernel_rfl, ?_⟩) (by assumption) ?_
  case refine_2 => (intro w9 hSw; clear hSw; go_simp; try with_reducible rfl)
  simp only [Act.put, List.setIfInBounds_toArray, List.set_cons_zero, List.set_cons_succ]
  refine wpAnyH_take (i := 3) (v := ?_) (oi := { dst := some 20, op := _, type := _, pos := _, after := _, guard := none }) rfl (by kernel_rfl) (by kernel_rfl) (by kernel_rfl) (fun _ _ _ h => h) (Or.inl ⟨by kernel_rfl, ?_⟩) (by assumption) ?_
  case refine_2 => (intro w9 hSw; obtain ⟨zb, zp, zr⟩ := hSw; have q3 := zp.box.c 3 rfl; have r0 := zr.c 0 rfl; clear zb zp zr; go_simp; try with_reducible rfl)
  simp only [Act.put, List.setIfInBounds_toArray, List.set_cons_zero, List.set_cons_succ]
  refine wpAnyH_take (i := 4) (v := ?_) (oi := { dst := some 21, op := _, type := _, pos := _, after := _, guard := none }) rfl (by kernel_rfl) (by kernel_rfl) (by kernel_rfl) (fun _ _ _ h => h) (Or.inl ⟨by kernel_rfl, ?_⟩) (by assumption) ?_
  case refine_2 => (intro w9 hSw; clear hSw; go_simp; try with_reducible rfl)
  simp only [Act.put, List.setIfInBounds_toArray, List.set_cons_zero, List.set_cons_succ]
  refine wpAnyH_take (i := 5) (v := ?_) (oi := { dst := some 22, op := _, type := _, pos := _, after := _, guard := none }) rfl (by kernel_rfl) (by kernel_rfl) (by kernel_rfl) (fun _ _ _ h => h) (Or.inl ⟨by kernel_rfl, ?_⟩) (by assumption) ?_
  case refine_2 => (intro w9 hSw; obtain ⟨zb, zp, zr⟩ := hSw; have q3 := zp.box.c 3 rfl; have r0 := zr.c 0 rfl; clear zb zp zr; go_simp; try with_reducible rfl)
  simp only [Act.put, List.setIfInBounds_toArray, List.set_cons_zero, List.set_cons_succ]
  refine wpAnyH_ready (rs := [6]) (by kernel_rfl) (by simp) (AllReadyH.cons (o := { dst := some 23, op := _, type := _, pos := _, after := _, guard := none }) rfl (fun K hK => ?_) AllReadyH.nil)
  have lk := lookup_S (P := Tryz.prog) (t := 48) Tryz.underlying48 Tryz.underlying9 (show (zeroValue 3).run Tryz.prog _ = .ok (.int .i64 0) _ from by kernel_rfl) hHeld.2.1.map r.nm
  go_simp
  refine hK.out _ _ hHeld (fun hHeld => ?_)
  clear hK K lk
  refine wpAnyH_take (i := 7) (v := ?_) (oi := { dst := some 7, op := _, type := _, pos := _, after := _, guard := none }) rfl (by kernel_rfl) (by kernel_rfl) (by kernel_rfl) (fun _ _ _ h => h) (Or.inl ⟨by kernel_rfl, ?_⟩) (by assumption) ?_
  case refine_2 => (intro w9 hSw; clear hSw; go_simp; try with_reducible rfl)
  simp only [Act.put, List.setIfInBounds_toArray, List.set_cons_zero, List.set_cons_succ]
  refine wpAnyH_done (by kernel_rfl) ?_ _
  have KK : Hid _ := hHeld
  clear hHeld
  rcases hz with hz | ⟨hz, hd⟩
  · go_wp2_with fail
    go_ret
    exact ⟨rfl, KK.out.1⟩
  · have hn : ¬ S.cnt r.nm = 16 := by omega
    have hd' : (S.dn : Int) = 16 := by omega
    have q3 := KK.out.2.1.box.c 3 rfl
    have ln := fun ty => len_S (P := Tryz.prog) (t := 48) Tryz.underlying48 KK.out.2.1.map ty
    go_wp2_with fail
    go_ret
    exact ⟨rfl, KK.out.1⟩

set_option maxRecDepth 100000 in
set_option maxHeartbeats 1000000 in
theorem takeRule_yes (n : Int) (fb fo k c : Nat) (r : RuleT) (A : Option Addr) (hA : Hid ((if c = 1 then some (⟨fb, fo, none⟩ : Addr) else some ⟨fb, fo + 1, none⟩) = A)) (hkc : k + 1 ≤ c) (w : World) (g m B : Nat) (S : PSt) (vr vl ve vz : Value) (vs : List Value) (V : World) (h : PM w g m B S vr vl ve vz vs V) (hz : ¬ (S.cnt r.nm = 16 ∨ (S.cnt r.nm = 0 ∧ S.dn = 16))) (hc0 : 0 ≤ S.cnt r.nm) (hc9 : S.cnt r.nm ≤ 16) (hN : S.rules.length ≤ 100000)
    (RR : Hid (∀ W : World, Below V.heap.size V W → Calls Tryz.prog 80 #[.slice A k (c - 1)] W fun e W' => e = .returned (.tuple #[.agg #[.string r.nm, .int .i64 r.fr, .int .i64 r.tt, .int .i64 r.mo, .int .i64 r.oa, .int .i64 r.ob, .int .i64 r.oc, .int .i64 r.ta, .int .u8 r.tz, .int .i64 r.sv, .string r.lt], .bool true]) ∧ Below W.heap.size W W')) :
    Calls Tryz.prog 49 #[.pointer (some ⟨g, 0, none⟩), .agg #[.int .i64 n, .slice (some ⟨fb, fo, none⟩) (k + 1) c]] V fun e W' => e = .returned (.int .i64 0) ∧ ∃ v', PM w g m B { S with rules := S.rules ++ [r], dn := if S.cnt r.nm = 0 then S.dn + 1 else S.dn, cnt := fun k => if k = r.nm then S.cnt r.nm + 1 else S.cnt k } v' vl ve vz vs W' := by
  have hz2 : S.cnt r.nm = 0 ∧ S.dn ≠ 16 ∨ S.cnt r.nm ≠ 0 := by omega
  have hz16 : ¬ S.cnt r.nm = 16 := by omega
  have hwr : IntKind.i64.wrap (S.cnt r.nm + 1) = S.cnt r.nm + 1 := by rw [IntKind.wrap_i64]; omega
  obtain ⟨S1, hS1⟩ : ∃ S1, { S with dn := if S.cnt r.nm = 0 then S.dn + 1 else S.dn, cnt := fun k => if k = r.nm then S.cnt r.nm + 1 else S.cnt k } = S1 := ⟨_, rfl⟩
  obtain ⟨S2, hS2⟩ : ∃ S2, { S with rules := S.rules ++ [r], dn := if S.cnt r.nm = 0 then S.dn + 1 else S.dn, cnt := fun k => if k = r.nm then S.cnt r.nm + 1 else S.cnt k } = S2 := ⟨_, rfl⟩
  rw [hS2]
  obtain ⟨i0, hi0, iz0, iz1, iz2⟩ := info_partsP infoRule
  have h1 : (1 : Int) ≤ (k : Int) + 1 := by omega
  have h2 : (k : Int) + 1 ≤ (c : Int) := by omega
  have h3 : (1 : Int) ≤ (c : Int) := by omega
  have B1 : Hid (Below V.heap.size V (V.alloc (.cells #[.int .i64 n, .slice (some ⟨fb, fo, none⟩) (k + 1) c] 54))) := (Below.refl _ _).alloc (Nat.le_refl _) _
  have hA2 : _ = _ := hA.out
  go_enter Tryz.func49, Tryz.ntmps49
  go_wp2_with fail
  refine (RR.out _ B1.out).mono ?_
  rintro e W1 ⟨rfl, hb⟩
  have hB1 : Hid (Below V.heap.size V W1) := NBs hb
  obtain ⟨rb, hrb⟩ : ∃ rb, rb = W1.heap.size := ⟨_, rfl⟩
  have hVrb : V.heap.size ≤ rb := by rw [hrb]; exact hB1.out.size
  have E0 : Hid (Below V.heap.size V (W1.alloc (.cells #[.string r.nm, .int .i64 r.fr, .int .i64 r.tt, .int .i64 r.mo, .int .i64 r.oa, .int .i64 r.ob, .int .i64 r.oc, .int .i64 r.ta, .int .u8 r.tz, .int .i64 r.sv, .string r.lt] 85)) ∧ PM w g m B S vr vl ve vz vs (W1.alloc (.cells #[.string r.nm, .int .i64 r.fr, .int .i64 r.tt, .int .i64 r.mo, .int .i64 r.oa, .int .i64 r.ob, .int .i64 r.oc, .int .i64 r.ta, .int .u8 r.tz, .int .i64 r.sv, .string r.lt] 85)) ∧ Bx (W1.alloc (.cells #[.string r.nm, .int .i64 r.fr, .int .i64 r.tt, .int .i64 r.mo, .int .i64 r.oa, .int .i64 r.ob, .int .i64 r.oc, .int .i64 r.ta, .int .u8 r.tz, .int .i64 r.sv, .string r.lt] 85)) rb r.cs) := ⟨hB1.out.alloc hB1.out.size _, h.below (hB1.out.alloc hB1.out.size _), by rw [hrb]; exact Bx.new W1 r.cs _⟩
  clear hb hB1 B1 hA2 h1 h2 h3
  go_upto_region 4 with fail
  refine gen_code (fun W => (Below V.heap.size V W ∧ PM w g m B S vr vl ve vz vs W ∧ Bx W rb r.cs)) E0.out ?_
  clear E0
  intro w1 hE
  have KK : Hid (Below V.heap.size V w1 ∧ PM w g m B S vr vl ve vz vs w1 ∧ Bx w1 rb r.cs) := hE
  clear hE
  rw [← hrb]
  clear hrb
  go_wp2_with fail
  refine wp_region_held_drew (S := fun V' => (Below V.heap.size V V' ∧ PM w g m B S vr vl ve vz vs V' ∧ Bx V' rb r.cs)) (by kernel_rfl) ⟨KK.out.1.drew, KK.out.2.1.drew, KK.out.2.2⟩ (fun hHeld => ?_)
  refine gen_any (fun V' => (Below V.heap.size V V' ∧ PM w g m B S vr vl ve vz vs V' ∧ Bx V' rb r.cs)) hHeld ?_
  clear hHeld KK
  rintro w2 hHeld
  refine wpAnyH_take (i := 0) (v := ?_) (oi := { dst := some 17, op := _, type := _, pos := _, after := _, guard := none }) rfl (by kernel_rfl) (by kernel_rfl) (by kernel_rfl) (fun _ _ _ h => h) (Or.inl ⟨by kernel_rfl, ?_⟩) (by assumption) ?_
  case refine_2 => (intro w9 hSw; clear hSw; go_simp; try with_reducible rfl)
  simp only [Act.put, List.setIfInBounds_toArray, List.set_cons_zero, List.set_cons_succ]
  refine wpAnyH_take (i := 1) (v := ?_) (oi := { dst := some 18, op := _, type := _, pos := _, after := _, guard := none }) rfl (by kernel_rfl) (by kernel_rfl) (by kernel_rfl) (fun _ _ _ h => h) (Or.inl ⟨by kernel_rfl, ?_⟩) (by assumption) ?_
  case refine_2 => (intro w9 hSw; clear hSw; go_simp; try with_reducible rfl)
  simp only [Act.put, List.setIfInBounds_toArray, List.set_cons_zero, List.set_cons_succ]
  refine wpAnyH_take (i := 2) (v := ?_) (oi := { dst := some 19, op := _, type := _, pos := _, after := _, guard := none }) rfl (by kernel_rfl) (by kernel_rfl) (by kernel_rfl) (fun _ _ _ h => h) (Or.inl ⟨by kernel_rfl, ?_⟩) (by assumption) ?_
  case refine_2 => (intro w9 hSw; clear hSw; go_simp; try with_reducible rfl)
  simp only [Act.put, List.setIfInBounds_toArray, List.set_cons_zero, List.set_cons_succ]
  refine wpAnyH_take (i := 3) (v := ?_) (oi := { dst := some 20, op := _, type := _, pos := _, after := _, guard := none }) rfl (by kernel_rfl) (by kernel_rfl) (by kernel_rfl) (fun _ _ _ h => h) (Or.inl ⟨by kernel_rfl, ?_⟩) (by assumption) ?_
  case refine_2 => (intro w9 hSw; obtain ⟨zb, zp, zr⟩ := hSw; have q3 := zp.box.c 3 rfl; have r0 := zr.c 0 rfl; clear zb zp zr; go_simp; try with_reducible rfl)
  simp only [Act.put, List.setIfInBounds_toArray, List.set_cons_zero, List.set_cons_succ]
  refine wpAnyH_take (i := 4) (v := ?_) (oi := { dst := some 21, op := _, type := _, pos := _, after := _, guard := none }) rfl (by kernel_rfl) (by kernel_rfl) (by kernel_rfl) (fun _ _ _ h => h) (Or.inl ⟨by kernel_rfl, ?_⟩) (by assumption) ?_
  case refine_2 => (intro w9 hSw; clear hSw; go_simp; try with_reducible rfl)
  simp only [Act.put, List.setIfInBounds_toArray, List.set_cons_zero, List.set_cons_succ]
  refine wpAnyH_take (i := 5) (v := ?_) (oi := { dst := some 22, op := _, type := _, pos := _, after := _, guard := none }) rfl (by kernel_rfl) (by kernel_rfl) (by kernel_rfl) (fun _ _ _ h => h) (Or.inl ⟨by kernel_rfl, ?_⟩) (by assumption) ?_
  case refine_2 => (intro w9 hSw; obtain ⟨zb, zp, zr⟩ := hSw; have q3 := zp.box.c 3 rfl; have r0 := zr.c 0 rfl; clear zb zp zr; go_simp; try with_reducible rfl)
  simp only [Act.put, List.setIfInBounds_toArray, List.set_cons_zero, List.set_cons_succ]
  refine wpAnyH_ready (rs := [6]) (by kernel_rfl) (by simp) (AllReadyH.cons (o := { dst := some 23, op := _, type := _, pos := _, after := _, guard := none }) rfl (fun K hK => ?_) AllReadyH.nil)
  have lk := lookup_S (P := Tryz.prog) (t := 48) Tryz.underlying48 Tryz.underlying9 (show (zeroValue 3).run Tryz.prog _ = .ok (.int .i64 0) _ from by kernel_rfl) hHeld.2.1.map r.nm
  go_simp
  refine hK.out _ _ hHeld (fun hHeld => ?_)
  clear hK K lk
  refine wpAnyH_take (i := 7) (v := ?_) (oi := { dst := some 7, op := _, type := _, pos := _, after := _, guard := none }) rfl (by kernel_rfl) (by kernel_rfl) (by kernel_rfl) (fun _ _ _ h => h) (Or.inl ⟨by kernel_rfl, ?_⟩) (by assumption) ?_
  case refine_2 => (intro w9 hSw; clear hSw; go_simp; try with_reducible rfl)
  simp only [Act.put, List.setIfInBounds_toArray, List.set_cons_zero, List.set_cons_succ]
  refine wpAnyH_done (by kernel_rfl) ?_ _
  have KK : Hid _ := hHeld
  clear hHeld
  rcases hz2 with ⟨hz0, hd⟩ | hz0
  · have hd' : ¬ (S.dn : Int) = 16 := by omega
    have q3 := KK.out.2.1.box.c 3 rfl
    have ln := fun ty => len_S (P := Tryz.prog) (t := 48) Tryz.underlying48 KK.out.2.1.map ty
    go_upto_region 7 with fail
    clear ln q3 hd' hz0 hd hz
    go_wp2_with fail
    refine wp_region_held_drew (S := fun W => (W.cell? ⟨g, 3, none⟩ = some (.map (some m)) ∧ Bx W rb r.cs)) (by kernel_rfl) ⟨KK.out.2.1.box.c 3 rfl, KK.out.2.2⟩ (fun hHeld => ?_)
    refine gen_any (fun V' => (Below V.heap.size V V' ∧ PM w g m B S vr vl ve vz vs V' ∧ Bx V' rb r.cs)) ⟨KK.out.1.drew, KK.out.2.1.drew, KK.out.2.2⟩ ?_
    clear hHeld KK
    intro v0 kk
    have KK : Hid (Below V.heap.size V v0 ∧ PM w g m B S vr vl ve vz vs v0 ∧ Bx v0 rb r.cs) := kk
    clear kk
    have hHeld : (v0.cell? ⟨g, 3, none⟩ = some (.map (some m)) ∧ Bx v0 rb r.cs) := ⟨KK.out.2.1.box.c 3 rfl, KK.out.2.2⟩
    refine wpAnyH_take (i := 0) (v := ?_) (oi := { dst := some 38, op := _, type := _, pos := _, after := _, guard := none }) rfl (by kernel_rfl) (by kernel_rfl) (by kernel_rfl) (fun _ _ _ h => h) (Or.inl ⟨by kernel_rfl, ?_⟩) (by assumption) ?_
    case refine_2 => (intro w9 hSw; clear hSw; go_simp; try with_reducible rfl)
    simp only [Act.put, List.setIfInBounds_toArray, List.set_cons_zero, List.set_cons_succ]
    refine wpAnyH_take (i := 1) (v := ?_) (oi := { dst := some 39, op := _, type := _, pos := _, after := _, guard := none }) rfl (by kernel_rfl) (by kernel_rfl) (by kernel_rfl) (fun _ _ _ h => h) (Or.inl ⟨by kernel_rfl, ?_⟩) (by assumption) ?_
    case refine_2 => (intro w9 hSw; clear hSw; go_simp; try with_reducible rfl)
    simp only [Act.put, List.setIfInBounds_toArray, List.set_cons_zero, List.set_cons_succ]
    refine wpAnyH_take (i := 2) (v := ?_) (oi := { dst := some 40, op := _, type := _, pos := _, after := _, guard := none }) rfl (by kernel_rfl) (by kernel_rfl) (by kernel_rfl) (fun _ _ _ h => h) (Or.inl ⟨by kernel_rfl, ?_⟩) (by assumption) ?_
    case refine_2 => (intro w9 hSw; clear hSw; go_simp; try with_reducible rfl)
    simp only [Act.put, List.setIfInBounds_toArray, List.set_cons_zero, List.set_cons_succ]
    refine wpAnyH_take (i := 3) (v := ?_) (oi := { dst := some 41, op := _, type := _, pos := _, after := _, guard := none }) rfl (by kernel_rfl) (by kernel_rfl) (by kernel_rfl) (fun _ _ _ h => h) (Or.inl ⟨by kernel_rfl, ?_⟩) (by assumption) ?_
    case refine_2 => (intro w9 hSw; obtain ⟨q3, zr⟩ := hSw; have r0 := zr.c 0 rfl; clear zr; go_simp; try with_reducible rfl)
    simp only [Act.put, List.setIfInBounds_toArray, List.set_cons_zero, List.set_cons_succ]
    refine wpAnyH_take (i := 4) (v := ?_) (oi := { dst := some 42, op := _, type := _, pos := _, after := _, guard := none }) rfl (by kernel_rfl) (by kernel_rfl) (by kernel_rfl) (fun _ _ _ h => h) (Or.inl ⟨by kernel_rfl, ?_⟩) (by assumption) ?_
    case refine_2 => (intro w9 hSw; clear hSw; go_simp; try with_reducible rfl)
    simp only [Act.put, List.setIfInBounds_toArray, List.set_cons_zero, List.set_cons_succ]
    refine wpAnyH_take (i := 5) (v := ?_) (oi := { dst := some 43, op := _, type := _, pos := _, after := _, guard := none }) rfl (by kernel_rfl) (by kernel_rfl) (by kernel_rfl) (fun _ _ _ h => h) (Or.inl ⟨by kernel_rfl, ?_⟩) (by assumption) ?_
    case refine_2 => (intro w9 hSw; obtain ⟨q3, zr⟩ := hSw; have r0 := zr.c 0 rfl; clear zr; go_simp; try with_reducible rfl)
    simp only [Act.put, List.setIfInBounds_toArray, List.set_cons_zero, List.set_cons_succ]
    refine wpAnyH_ready (rs := [6]) (by kernel_rfl) (by simp) (AllReadyH.cons (o := { dst := some 44, op := _, type := _, pos := _, after := _, guard := none }) rfl (fun K hK => ?_) AllReadyH.nil)
    have lk := lookup_S (P := Tryz.prog) (t := 48) Tryz.underlying48 Tryz.underlying9 (show (zeroValue 3).run Tryz.prog _ = .ok (.int .i64 0) _ from by kernel_rfl) KK.out.2.1.map r.nm
    go_simp
    refine hK.out _ _ hHeld (fun hHeld => ?_)
    clear hK K lk
    refine wpAnyH_take (i := 7) (v := ?_) (oi := { dst := some 45, op := _, type := _, pos := _, after := _, guard := none }) rfl (by kernel_rfl) (by kernel_rfl) (by kernel_rfl) (fun _ _ _ h => h) (Or.inl ⟨by kernel_rfl, ?_⟩) (by assumption) ?_
    case refine_2 => (intro w9 hSw; clear hSw; go_simp; try with_reducible rfl)
    simp only [Act.put, List.setIfInBounds_toArray, List.set_cons_zero, List.set_cons_succ]
    refine wpAnyH_ready (rs := [8]) (by kernel_rfl) (by simp) (AllReadyH.cons (o := { dst := none, op := _, type := _, pos := _, after := _, guard := none }) rfl (fun K hK => ?_) AllReadyH.nil)
    obtain ⟨W', hup, hMS, hgr⟩ := update_S (P := Tryz.prog) (t := 48) Tryz.underlying48 Tryz.underlying9 KK.out.2.1.map r.nm (S.cnt r.nm + 1) (by omega)
    have hup2 : (Instr.mapUpdate 48 (.map (some m)) (.string r.nm) (.int .i64 (IntKind.i64.wrap (S.cnt r.nm + 1)))).run Tryz.prog v0 = .ok () W' := by rw [hwr]; exact hup
    have KP : Hid (PM w g m B S1 vr vl ve vz vs W' ∧ Bx W' rb r.cs) := ⟨by rw [← hS1]; exact KK.out.2.1.mapped hMS hgr, bx_growP KK.out.2.2 hgr (fun e => by cases e; have := KK.out.2.1.mB; have := KK.out.2.1.BV; have := h.mlt; omega)⟩
    go_simp
    refine hK.out _ _ ⟨KP.out.1.box.c 3 rfl, KP.out.2⟩ (fun hHeld => ?_)
    refine gen_any (fun V' => (PM w g m B S1 vr vl ve vz vs V' ∧ Bx V' rb r.cs)) KP.out ?_
    clear hHeld hK K KP KK hup hup2 hMS hgr
    intro v2 kk
    have KK : Hid (PM w g m B S1 vr vl ve vz vs v2 ∧ Bx v2 rb r.cs) := kk
    clear kk
    have hHeld : (v2.cell? ⟨g, 3, none⟩ = some (.map (some m)) ∧ Bx v2 rb r.cs) := ⟨KK.out.1.box.c 3 rfl, KK.out.2⟩
    refine wpAnyH_done (by kernel_rfl) ?_ _
    go_wp2_with fail
    refine wp_region_held_drew (S := fun W => Bx W rb r.cs) (by kernel_rfl) KK.out.2 (fun hHeld => ?_)
    refine gen_any (fun V' => (PM w g m B S1 vr vl ve vz vs V' ∧ Bx V' rb r.cs)) ⟨KK.out.1.drew, KK.out.2⟩ ?_
    clear hHeld KK
    intro y0 kk
    have KK : Hid (PM w g m B S1 vr vl ve vz vs y0 ∧ Bx y0 rb r.cs) := kk
    clear kk
    have hHeld : Bx y0 rb r.cs := KK.out.2
    refine wpAnyH_take (i := 0) (v := ?_) (oi := { dst := some 46, op := _, type := _, pos := _, after := _, guard := none }) rfl (by kernel_rfl) (by kernel_rfl) (by kernel_rfl) (fun _ _ _ h => h) (Or.inl ⟨by kernel_rfl, ?_⟩) (by assumption) ?_
    case refine_2 => (intro w9 hSw; clear hSw; go_simp; try with_reducible rfl)
    simp only [Act.put, List.setIfInBounds_toArray, List.set_cons_zero, List.set_cons_succ]
    refine wpAnyH_take (i := 1) (v := ?_) (oi := { dst := some 47, op := _, type := _, pos := _, after := _, guard := none }) rfl (by kernel_rfl) (by kernel_rfl) (by kernel_rfl) (fun _ _ _ h => h) (Or.inl ⟨by kernel_rfl, ?_⟩) (by assumption) ?_
    case refine_2 => (intro w9 hSw; clear hSw; go_simp; try with_reducible rfl)
    simp only [Act.put, List.setIfInBounds_toArray, List.set_cons_zero, List.set_cons_succ]
    refine wpAnyH_take (i := 2) (v := ?_) (oi := { dst := some 48, op := _, type := _, pos := _, after := _, guard := none }) rfl (by kernel_rfl) (by kernel_rfl) (by kernel_rfl) (fun _ _ _ h => h) (Or.inl ⟨by kernel_rfl, ?_⟩) (by assumption) ?_
    case refine_2 => (intro w9 hSw; clear hSw; go_simp; try with_reducible rfl)
    simp only [Act.put, List.setIfInBounds_toArray, List.set_cons_zero, List.set_cons_succ]
    refine wpAnyH_take (i := 3) (v := ?_) (oi := { dst := some 49, op := _, type := _, pos := _, after := _, guard := none }) rfl (by kernel_rfl) (by kernel_rfl) (by kernel_rfl) (fun _ _ _ h => h) (Or.inl ⟨by kernel_rfl, ?_⟩) (by assumption) ?_
    case refine_2 => (intro w9 hSw; clear hSw; go_simp; try with_reducible rfl)
    simp only [Act.put, List.setIfInBounds_toArray, List.set_cons_zero, List.set_cons_succ]
    refine wpAnyH_take (i := 4) (v := ?_) (oi := { dst := some 50, op := _, type := _, pos := _, after := _, guard := none }) rfl (by kernel_rfl) (by kernel_rfl) (by kernel_rfl) (fun _ _ _ h => h) (Or.inl ⟨by kernel_rfl, ?_⟩) (by assumption) ?_
    case refine_2 => (intro w9 hSw; clear hSw; go_simp; try with_reducible rfl)
    simp only [Act.put, List.setIfInBounds_toArray, List.set_cons_zero, List.set_cons_succ]
    refine wpAnyH_take (i := 6) (v := ?_) (oi := { dst := some 52, op := _, type := _, pos := _, after := _, guard := none }) rfl (by kernel_rfl) (by kernel_rfl) (by kernel_rfl) (fun _ _ _ h => h) (Or.inl ⟨by kernel_rfl, ?_⟩) (by assumption) ?_
    case refine_2 => (intro w9 hSw; have q0 := hSw.c 0 rfl; have q1 := hSw.c 1 rfl; have q2 := hSw.c 2 rfl; have q3 := hSw.c 3 rfl; have q4 := hSw.c 4 rfl; have q5 := hSw.c 5 rfl; have q6 := hSw.c 6 rfl; have q7 := hSw.c 7 rfl; have q8 := hSw.c 8 rfl; have q9 := hSw.c 9 rfl; have q10 := hSw.c 10 rfl; clear hSw; go_simp; try with_reducible rfl)
    simp only [Act.put, List.setIfInBounds_toArray, List.set_cons_zero, List.set_cons_succ]
    refine wpAnyH_ready (rs := [5, 7]) (by kernel_rfl) (by simp) (AllReadyH.cons (o := { dst := some 51, op := _, type := _, pos := _, after := _, guard := none }) rfl (fun K hK => ?_) (AllReadyH.cons (o := { dst := some 53, op := _, type := _, pos := _, after := _, guard := none }) rfl (fun K hK => ?_) AllReadyH.nil))
    ·
      have q0 := KK.out.1.box.c 0 rfl
      go_simp
      refine hK.out _ _ hHeld (fun hHeld => ?_)
      clear hK K q0
      refine wpAnyH_ready (rs := [7]) (by kernel_rfl) (by simp) (AllReadyH.cons (o := { dst := some 53, op := _, type := _, pos := _, after := _, guard := none }) rfl (fun K hK => ?_) AllReadyH.nil)
      go_simp
      refine hK.out _ _ (hHeld.alloc _) (fun hHeld => ?_)
      obtain ⟨BR, hBR⟩ : ∃ BR, BR = y0.heap.size := ⟨_, rfl⟩
      have KN : Hid (PM w g m B S1 vr vl ve vz vs (y0.alloc (.cells #[.string r.nm, .int .i64 r.fr, .int .i64 r.tt, .int .i64 r.mo, .int .i64 r.oa, .int .i64 r.ob, .int .i64 r.oc, .int .i64 r.ta, .int .u8 r.tz, .int .i64 r.sv, .string r.lt] 85)) ∧ Bx (y0.alloc (.cells #[.string r.nm, .int .i64 r.fr, .int .i64 r.tt, .int .i64 r.mo, .int .i64 r.oa, .int .i64 r.ob, .int .i64 r.oc, .int .i64 r.ta, .int .u8 r.tz, .int .i64 r.sv, .string r.lt] 85)) BR r.cs ∧ Bx (y0.alloc (.cells #[.string r.nm, .int .i64 r.fr, .int .i64 r.tt, .int .i64 r.mo, .int .i64 r.oa, .int .i64 r.ob, .int .i64 r.oc, .int .i64 r.ta, .int .u8 r.tz, .int .i64 r.sv, .string r.lt] 85)) rb r.cs) := ⟨KK.out.1.below ((Below.refl _ _).alloc (Nat.le_refl _) _), by rw [hBR]; exact Bx.new y0 r.cs _, KK.out.2.alloc _⟩
      refine gen_any (fun V' => (PM w g m B S1 vr vl ve vz vs V' ∧ Bx V' BR r.cs ∧ Bx V' rb r.cs)) KN.out ?_
      rw [← hBR]
      clear hHeld hK K KN hBR KK
      intro v2 kk
      have KK : Hid (PM w g m B S1 vr vl ve vz vs v2 ∧ Bx v2 BR r.cs) := ⟨kk.1, kk.2.1⟩
      have hHeld : Bx v2 rb r.cs := kk.2.2
      clear kk
      refine wpAnyH_ready (rs := [8]) (by kernel_rfl) (by simp) (AllReadyH.cons (o := { dst := some 54, op := _, type := _, pos := _, after := _, guard := none }) rfl (fun K hK => ?_) AllReadyH.nil)
      have HOw : Hid (v2.ownsRow B 85 11 vr S.rules.length (ruleXs S.rules)) := by have := KK.out.1.fam.get 0 rfl; rw [← hS1] at this; exact this
      refine (if_pos (by kernel_rfl)).mpr (wp_append_newP _ _ 22 rfl B 85 i0 ruleZ 11 104 Tryz.underlying22 hi0 iz0 iz1 iz2 rfl (by decide) vr S.rules.length (ruleXs S.rules) rfl HOw.out ⟨BR, 0, none⟩ 1 r.cs rfl rfl (fun j u hj => by rw [show (⟨BR, 0, none⟩ : Addr).add j = ⟨BR, j, none⟩ from by rw [Addr.add_lit]; simp]; exact (KK.out.2.2 j u hj).1) (rule_oneP r) (by unfold maxLen; omega) (by omega) KK.out.1.BV ?_)
      intro v' w4 hown' hgrow hnew
      obtain ⟨sq', sn', sc', hv'⟩ := own_sliceP hown'
      subst hv'
      have HQ : Hid ((PM w g m B S2 (.slice sq' sn' sc') vl ve vz vs (w4.setCell ⟨g, 0, none⟩ (.slice sq' sn' sc'))) ∧ Bx (w4.setCell ⟨g, 0, none⟩ (.slice sq' sn' sc')) rb r.cs ∧ Bx w4 rb r.cs) := by
        have q1 := KK.out.1.ruled r (by rw [← hS1] at *; exact hgrow) hnew (by rw [← hS1]; exact hown')
        rw [← hS1] at q1
        have q2 : Bx w4 rb r.cs := bx_growP hHeld hgrow (fun e => by have := (own_ltP (h.fam.get 0 rfl) e).2; omega)
        exact ⟨by rw [← hS2]; exact q1, q2.set9 (by have := h.lt; omega) _, q2⟩
      have HBX : Hid (Bx w4 g _) := KK.out.1.grownBox hgrow (fun c e => (own_ltP HOw.out e).1)
      refine hK.out _ _ HQ.out.2.2 (fun hHeld => ?_)
      clear hK K hown' hgrow hnew HOw KK
      refine wpAnyH_take (i := 9) (v := ?_) (oi := { dst := some 55, op := _, type := _, pos := _, after := _, guard := none }) rfl (by kernel_rfl) (by kernel_rfl) (by kernel_rfl) (fun _ _ _ h => h) (Or.inl ⟨by kernel_rfl, ?_⟩) (by assumption) ?_
      case refine_2 => (intro w9 hSw; clear hSw; go_simp; try with_reducible rfl)
      simp only [Act.put, List.setIfInBounds_toArray, List.set_cons_zero, List.set_cons_succ]
      refine wpAnyH_take (i := 10) (v := ?_) (oi := { dst := some 56, op := _, type := _, pos := _, after := _, guard := none }) rfl (by kernel_rfl) (by kernel_rfl) (by kernel_rfl) (fun _ _ _ h => h) (Or.inl ⟨by kernel_rfl, ?_⟩) (by assumption) ?_
      case refine_2 => (intro w9 hSw; clear hSw; go_simp; try with_reducible rfl)
      simp only [Act.put, List.setIfInBounds_toArray, List.set_cons_zero, List.set_cons_succ]
      refine wpAnyH_take (i := 11) (v := ?_) (oi := { dst := some 57, op := _, type := _, pos := _, after := _, guard := none }) rfl (by kernel_rfl) (by kernel_rfl) (by kernel_rfl) (fun _ _ _ h => h) (Or.inl ⟨by kernel_rfl, ?_⟩) (by assumption) ?_
      case refine_2 => (intro w9 hSw; clear hSw; go_simp; try with_reducible rfl)
      simp only [Act.put, List.setIfInBounds_toArray, List.set_cons_zero, List.set_cons_succ]
      refine wpAnyH_ready (rs := [12]) (by kernel_rfl) (by simp) (AllReadyH.cons (o := { dst := none, op := _, type := _, pos := _, after := _, guard := none }) rfl (fun K hK => ?_) AllReadyH.nil)
      have c2 := HBX.out.c 0 rfl
      have z2 := HBX.out.f 0 rfl
      have h4 := HBX.out.1
      go_simp
      refine hK.out _ _ HQ.out.2.1 (fun hHeld => ?_)
      refine gen_any (fun V' => PM w g m B S2 (.slice sq' sn' sc') vl ve vz vs V') HQ.out.1 ?_
      clear hHeld hK K HQ HBX c2 z2 h4
      intro v4 kk
      have KK : Hid (PM w g m B S2 (.slice sq' sn' sc') vl ve vz vs v4) := kk
      clear kk
      refine wpAnyH_done (by kernel_rfl) ?_ _
      go_wp2_with fail
      go_ret
      exact ⟨rfl, _, KK.out⟩
    ·
      go_simp
      refine hK.out _ _ (hHeld.alloc _) (fun hHeld => ?_)
      obtain ⟨BR, hBR⟩ : ∃ BR, BR = y0.heap.size := ⟨_, rfl⟩
      have KN : Hid (PM w g m B S1 vr vl ve vz vs (y0.alloc (.cells #[.string r.nm, .int .i64 r.fr, .int .i64 r.tt, .int .i64 r.mo, .int .i64 r.oa, .int .i64 r.ob, .int .i64 r.oc, .int .i64 r.ta, .int .u8 r.tz, .int .i64 r.sv, .string r.lt] 85)) ∧ Bx (y0.alloc (.cells #[.string r.nm, .int .i64 r.fr, .int .i64 r.tt, .int .i64 r.mo, .int .i64 r.oa, .int .i64 r.ob, .int .i64 r.oc, .int .i64 r.ta, .int .u8 r.tz, .int .i64 r.sv, .string r.lt] 85)) BR r.cs ∧ Bx (y0.alloc (.cells #[.string r.nm, .int .i64 r.fr, .int .i64 r.tt, .int .i64 r.mo, .int .i64 r.oa, .int .i64 r.ob, .int .i64 r.oc, .int .i64 r.ta, .int .u8 r.tz, .int .i64 r.sv, .string r.lt] 85)) rb r.cs) := ⟨KK.out.1.below ((Below.refl _ _).alloc (Nat.le_refl _) _), by rw [hBR]; exact Bx.new y0 r.cs _, KK.out.2.alloc _⟩
      refine gen_any (fun V' => (PM w g m B S1 vr vl ve vz vs V' ∧ Bx V' BR r.cs ∧ Bx V' rb r.cs)) KN.out ?_
      rw [← hBR]
      clear hHeld hK K KN hBR KK
      intro v5 kk
      have KK : Hid (PM w g m B S1 vr vl ve vz vs v5 ∧ Bx v5 BR r.cs) := ⟨kk.1, kk.2.1⟩
      have hHeld : Bx v5 rb r.cs := kk.2.2
      clear kk
      refine wpAnyH_ready (rs := [5]) (by kernel_rfl) (by simp) (AllReadyH.cons (o := { dst := some 51, op := _, type := _, pos := _, after := _, guard := none }) rfl (fun K hK => ?_) AllReadyH.nil)
      have q0 := KK.out.1.box.c 0 rfl
      go_simp
      refine hK.out _ _ hHeld (fun hHeld => ?_)
      clear hK K q0
      refine wpAnyH_ready (rs := [8]) (by kernel_rfl) (by simp) (AllReadyH.cons (o := { dst := some 54, op := _, type := _, pos := _, after := _, guard := none }) rfl (fun K hK => ?_) AllReadyH.nil)
      have HOw : Hid (v5.ownsRow B 85 11 vr S.rules.length (ruleXs S.rules)) := by have := KK.out.1.fam.get 0 rfl; rw [← hS1] at this; exact this
      refine (if_pos (by kernel_rfl)).mpr (wp_append_newP _ _ 22 rfl B 85 i0 ruleZ 11 104 Tryz.underlying22 hi0 iz0 iz1 iz2 rfl (by decide) vr S.rules.length (ruleXs S.rules) rfl HOw.out ⟨BR, 0, none⟩ 1 r.cs rfl rfl (fun j u hj => by rw [show (⟨BR, 0, none⟩ : Addr).add j = ⟨BR, j, none⟩ from by rw [Addr.add_lit]; simp]; exact (KK.out.2.2 j u hj).1) (rule_oneP r) (by unfold maxLen; omega) (by omega) KK.out.1.BV ?_)
      intro v' w4 hown' hgrow hnew
      obtain ⟨sq', sn', sc', hv'⟩ := own_sliceP hown'
      subst hv'
      have HQ : Hid ((PM w g m B S2 (.slice sq' sn' sc') vl ve vz vs (w4.setCell ⟨g, 0, none⟩ (.slice sq' sn' sc'))) ∧ Bx (w4.setCell ⟨g, 0, none⟩ (.slice sq' sn' sc')) rb r.cs ∧ Bx w4 rb r.cs) := by
        have q1 := KK.out.1.ruled r (by rw [← hS1] at *; exact hgrow) hnew (by rw [← hS1]; exact hown')
        rw [← hS1] at q1
        have q2 : Bx w4 rb r.cs := bx_growP hHeld hgrow (fun e => by have := (own_ltP (h.fam.get 0 rfl) e).2; omega)
        exact ⟨by rw [← hS2]; exact q1, q2.set9 (by have := h.lt; omega) _, q2⟩
      have HBX : Hid (Bx w4 g _) := KK.out.1.grownBox hgrow (fun c e => (own_ltP HOw.out e).1)
      refine hK.out _ _ HQ.out.2.2 (fun hHeld => ?_)
      clear hK K hown' hgrow hnew HOw KK
      refine wpAnyH_take (i := 9) (v := ?_) (oi := { dst := some 55, op := _, type := _, pos := _, after := _, guard := none }) rfl (by kernel_rfl) (by kernel_rfl) (by kernel_rfl) (fun _ _ _ h => h) (Or.inl ⟨by kernel_rfl, ?_⟩) (by assumption) ?_
      case refine_2 => (intro w9 hSw; clear hSw; go_simp; try with_reducible rfl)
      simp only [Act.put, List.setIfInBounds_toArray, List.set_cons_zero, List.set_cons_succ]
      refine wpAnyH_take (i := 10) (v := ?_) (oi := { dst := some 56, op := _, type := _, pos := _, after := _, guard := none }) rfl (by kernel_rfl) (by kernel_rfl) (by kernel_rfl) (fun _ _ _ h => h) (Or.inl ⟨by kernel_rfl, ?_⟩) (by assumption) ?_
      case refine_2 => (intro w9 hSw; clear hSw; go_simp; try with_reducible rfl)
      simp only [Act.put, List.setIfInBounds_toArray, List.set_cons_zero, List.set_cons_succ]
      refine wpAnyH_take (i := 11) (v := ?_) (oi := { dst := some 57, op := _, type := _, pos := _, after := _, guard := none }) rfl (by kernel_rfl) (by kernel_rfl) (by kernel_rfl) (fun _ _ _ h => h) (Or.inl ⟨by kernel_rfl, ?_⟩) (by assumption) ?_
      case refine_2 => (intro w9 hSw; clear hSw; go_simp; try with_reducible rfl)
      simp only [Act.put, List.setIfInBounds_toArray, List.set_cons_zero, List.set_cons_succ]
      refine wpAnyH_ready (rs := [12]) (by kernel_rfl) (by simp) (AllReadyH.cons (o := { dst := none, op := _, type := _, pos := _, after := _, guard := none }) rfl (fun K hK => ?_) AllReadyH.nil)
      have c2 := HBX.out.c 0 rfl
      have z2 := HBX.out.f 0 rfl
      have h4 := HBX.out.1
      go_simp
      refine hK.out _ _ HQ.out.2.1 (fun hHeld => ?_)
      refine gen_any (fun V' => PM w g m B S2 (.slice sq' sn' sc') vl ve vz vs V') HQ.out.1 ?_
      clear hHeld hK K HQ HBX c2 z2 h4
      intro v8 kk
      have KK : Hid (PM w g m B S2 (.slice sq' sn' sc') vl ve vz vs v8) := kk
      clear kk
      refine wpAnyH_done (by kernel_rfl) ?_ _
      go_wp2_with fail
      go_ret
      exact ⟨rfl, _, KK.out⟩
  · go_upto_region 7 with fail
    clear hz0 hz
    go_wp2_with fail
    refine wp_region_held_drew (S := fun W => (W.cell? ⟨g, 3, none⟩ = some (.map (some m)) ∧ Bx W rb r.cs)) (by kernel_rfl) ⟨KK.out.2.1.box.c 3 rfl, KK.out.2.2⟩ (fun hHeld => ?_)
    refine gen_any (fun V' => (Below V.heap.size V V' ∧ PM w g m B S vr vl ve vz vs V' ∧ Bx V' rb r.cs)) ⟨KK.out.1.drew, KK.out.2.1.drew, KK.out.2.2⟩ ?_
    clear hHeld KK
    intro v0 kk
    have KK : Hid (Below V.heap.size V v0 ∧ PM w g m B S vr vl ve vz vs v0 ∧ Bx v0 rb r.cs) := kk
    clear kk
    have hHeld : (v0.cell? ⟨g, 3, none⟩ = some (.map (some m)) ∧ Bx v0 rb r.cs) := ⟨KK.out.2.1.box.c 3 rfl, KK.out.2.2⟩
    refine wpAnyH_take (i := 0) (v := ?_) (oi := { dst := some 38, op := _, type := _, pos := _, after := _, guard := none }) rfl (by kernel_rfl) (by kernel_rfl) (by kernel_rfl) (fun _ _ _ h => h) (Or.inl ⟨by kernel_rfl, ?_⟩) (by assumption) ?_
    case refine_2 => (intro w9 hSw; clear hSw; go_simp; try with_reducible rfl)
    simp only [Act.put, List.setIfInBounds_toArray, List.set_cons_zero, List.set_cons_succ]
    refine wpAnyH_take (i := 1) (v := ?_) (oi := { dst := some 39, op := _, type := _, pos := _, after := _, guard := none }) rfl (by kernel_rfl) (by kernel_rfl) (by kernel_rfl) (fun _ _ _ h => h) (Or.inl ⟨by kernel_rfl, ?_⟩) (by assumption) ?_
    case refine_2 => (intro w9 hSw; clear hSw; go_simp; try with_reducible rfl)
    simp only [Act.put, List.setIfInBounds_toArray, List.set_cons_zero, List.set_cons_succ]
    refine wpAnyH_take (i := 2) (v := ?_) (oi := { dst := some 40, op := _, type := _, pos := _, after := _, guard := none }) rfl (by kernel_rfl) (by kernel_rfl) (by kernel_rfl) (fun _ _ _ h => h) (Or.inl ⟨by kernel_rfl, ?_⟩) (by assumption) ?_
    case refine_2 => (intro w9 hSw; clear hSw; go_simp; try with_reducible rfl)
    simp only [Act.put, List.setIfInBounds_toArray, List.set_cons_zero, List.set_cons_succ]
    refine wpAnyH_take (i := 3) (v := ?_) (oi := { dst := some 41, op := _, type := _, pos := _, after := _, guard := none }) rfl (by kernel_rfl) (by kernel_rfl) (by kernel_rfl) (fun _ _ _ h => h) (Or.inl ⟨by kernel_rfl, ?_⟩) (by assumption) ?_
    case refine_2 => (intro w9 hSw; obtain ⟨q3, zr⟩ := hSw; have r0 := zr.c 0 rfl; clear zr; go_simp; try with_reducible rfl)
    simp only [Act.put, List.setIfInBounds_toArray, List.set_cons_zero, List.set_cons_succ]
    refine wpAnyH_take (i := 4) (v := ?_) (oi := { dst := some 42, op := _, type := _, pos := _, after := _, guard := none }) rfl (by kernel_rfl) (by kernel_rfl) (by kernel_rfl) (fun _ _ _ h => h) (Or.inl ⟨by kernel_rfl, ?_⟩) (by assumption) ?_
    case refine_2 => (intro w9 hSw; clear hSw; go_simp; try with_reducible rfl)
    simp only [Act.put, List.setIfInBounds_toArray, List.set_cons_zero, List.set_cons_succ]
    refine wpAnyH_take (i := 5) (v := ?_) (oi := { dst := some 43, op := _, type := _, pos := _, after := _, guard := none }) rfl (by kernel_rfl) (by kernel_rfl) (by kernel_rfl) (fun _ _ _ h => h) (Or.inl ⟨by kernel_rfl, ?_⟩) (by assumption) ?_
    case refine_2 => (intro w9 hSw; obtain ⟨q3, zr⟩ := hSw; have r0 := zr.c 0 rfl; clear zr; go_simp; try with_reducible rfl)
    simp only [Act.put, List.setIfInBounds_toArray, List.set_cons_zero, List.set_cons_succ]
    refine wpAnyH_ready (rs := [6]) (by kernel_rfl) (by simp) (AllReadyH.cons (o := { dst := some 44, op := _, type := _, pos := _, after := _, guard := none }) rfl (fun K hK => ?_) AllReadyH.nil)
    have lk := lookup_S (P := Tryz.prog) (t := 48) Tryz.underlying48 Tryz.underlying9 (show (zeroValue 3).run Tryz.prog _ = .ok (.int .i64 0) _ from by kernel_rfl) KK.out.2.1.map r.nm
    go_simp
    refine hK.out _ _ hHeld (fun hHeld => ?_)
    clear hK K lk
    refine wpAnyH_take (i := 7) (v := ?_) (oi := { dst := some 45, op := _, type := _, pos := _, after := _, guard := none }) rfl (by kernel_rfl) (by kernel_rfl) (by kernel_rfl) (fun _ _ _ h => h) (Or.inl ⟨by kernel_rfl, ?_⟩) (by assumption) ?_
    case refine_2 => (intro w9 hSw; clear hSw; go_simp; try with_reducible rfl)
    simp only [Act.put, List.setIfInBounds_toArray, List.set_cons_zero, List.set_cons_succ]
    refine wpAnyH_ready (rs := [8]) (by kernel_rfl) (by simp) (AllReadyH.cons (o := { dst := none, op := _, type := _, pos := _, after := _, guard := none }) rfl (fun K hK => ?_) AllReadyH.nil)
    obtain ⟨W', hup, hMS, hgr⟩ := update_S (P := Tryz.prog) (t := 48) Tryz.underlying48 Tryz.underlying9 KK.out.2.1.map r.nm (S.cnt r.nm + 1) (by omega)
    have hup2 : (Instr.mapUpdate 48 (.map (some m)) (.string r.nm) (.int .i64 (IntKind.i64.wrap (S.cnt r.nm + 1)))).run Tryz.prog v0 = .ok () W' := by rw [hwr]; exact hup
    have KP : Hid (PM w g m B S1 vr vl ve vz vs W' ∧ Bx W' rb r.cs) := ⟨by rw [← hS1]; exact KK.out.2.1.mapped hMS hgr, bx_growP KK.out.2.2 hgr (fun e => by cases e; have := KK.out.2.1.mB; have := KK.out.2.1.BV; have := h.mlt; omega)⟩
    go_simp
    refine hK.out _ _ ⟨KP.out.1.box.c 3 rfl, KP.out.2⟩ (fun hHeld => ?_)
    refine gen_any (fun V' => (PM w g m B S1 vr vl ve vz vs V' ∧ Bx V' rb r.cs)) KP.out ?_
    clear hHeld hK K KP KK hup hup2 hMS hgr
    intro v2 kk
    have KK : Hid (PM w g m B S1 vr vl ve vz vs v2 ∧ Bx v2 rb r.cs) := kk
    clear kk
    have hHeld : (v2.cell? ⟨g, 3, none⟩ = some (.map (some m)) ∧ Bx v2 rb r.cs) := ⟨KK.out.1.box.c 3 rfl, KK.out.2⟩
    refine wpAnyH_done (by kernel_rfl) ?_ _
    go_wp2_with fail
    refine wp_region_held_drew (S := fun W => Bx W rb r.cs) (by kernel_rfl) KK.out.2 (fun hHeld => ?_)
    refine gen_any (fun V' => (PM w g m B S1 vr vl ve vz vs V' ∧ Bx V' rb r.cs)) ⟨KK.out.1.drew, KK.out.2⟩ ?_
    clear hHeld KK
    intro y0 kk
    have KK : Hid (PM w g m B S1 vr vl ve vz vs y0 ∧ Bx y0 rb r.cs) := kk
    clear kk
    have hHeld : Bx y0 rb r.cs := KK.out.2
    refine wpAnyH_take (i := 0) (v := ?_) (oi := { dst := some 46, op := _, type := _, pos := _, after := _, guard := none }) rfl (by kernel_rfl) (by kernel_rfl) (by kernel_rfl) (fun _ _ _ h => h) (Or.inl ⟨by kernel_rfl, ?_⟩) (by assumption) ?_
    case refine_2 => (intro w9 hSw; clear hSw; go_simp; try with_reducible rfl)
    simp only [Act.put, List.setIfInBounds_toArray, List.set_cons_zero, List.set_cons_succ]
    refine wpAnyH_take (i := 1) (v := ?_) (oi := { dst := some 47, op := _, type := _, pos := _, after := _, guard := none }) rfl (by kernel_rfl) (by kernel_rfl) (by kernel_rfl) (fun _ _ _ h => h) (Or.inl ⟨by kernel_rfl, ?_⟩) (by assumption) ?_
    case refine_2 => (intro w9 hSw; clear hSw; go_simp; try with_reducible rfl)
    simp only [Act.put, List.setIfInBounds_toArray, List.set_cons_zero, List.set_cons_succ]
    refine wpAnyH_take (i := 2) (v := ?_) (oi := { dst := some 48, op := _, type := _, pos := _, after := _, guard := none }) rfl (by kernel_rfl) (by kernel_rfl) (by kernel_rfl) (fun _ _ _ h => h) (Or.inl ⟨by kernel_rfl, ?_⟩) (by assumption) ?_
    case refine_2 => (intro w9 hSw; clear hSw; go_simp; try with_reducible rfl)
    simp only [Act.put, List.setIfInBounds_toArray, List.set_cons_zero, List.set_cons_succ]
    refine wpAnyH_take (i := 3) (v := ?_) (oi := { dst := some 49, op := _, type := _, pos := _, after := _, guard := none }) rfl (by kernel_rfl) (by kernel_rfl) (by kernel_rfl) (fun _ _ _ h => h) (Or.inl ⟨by kernel_rfl, ?_⟩) (by assumption) ?_
    case refine_2 => (intro w9 hSw; clear hSw; go_simp; try with_reducible rfl)
    simp only [Act.put, List.setIfInBounds_toArray, List.set_cons_zero, List.set_cons_succ]
    refine wpAnyH_take (i := 4) (v := ?_) (oi := { dst := some 50, op := _, type := _, pos := _, after := _, guard := none }) rfl (by kernel_rfl) (by kernel_rfl) (by kernel_rfl) (fun _ _ _ h => h) (Or.inl ⟨by kernel_rfl, ?_⟩) (by assumption) ?_
    case refine_2 => (intro w9 hSw; clear hSw; go_simp; try with_reducible rfl)
    simp only [Act.put, List.setIfInBounds_toArray, List.set_cons_zero, List.set_cons_succ]
    refine wpAnyH_take (i := 6) (v := ?_) (oi := { dst := some 52, op := _, type := _, pos := _, after := _, guard := none }) rfl (by kernel_rfl) (by kernel_rfl) (by kernel_rfl) (fun _ _ _ h => h) (Or.inl ⟨by kernel_rfl, ?_⟩) (by assumption) ?_
    case refine_2 => (intro w9 hSw; have q0 := hSw.c 0 rfl; have q1 := hSw.c 1 rfl; have q2 := hSw.c 2 rfl; have q3 := hSw.c 3 rfl; have q4 := hSw.c 4 rfl; have q5 := hSw.c 5 rfl; have q6 := hSw.c 6 rfl; have q7 := hSw.c 7 rfl; have q8 := hSw.c 8 rfl; have q9 := hSw.c 9 rfl; have q10 := hSw.c 10 rfl; clear hSw; go_simp; try with_reducible rfl)
    simp only [Act.put, List.setIfInBounds_toArray, List.set_cons_zero, List.set_cons_succ]
    refine wpAnyH_ready (rs := [5, 7]) (by kernel_rfl) (by simp) (AllReadyH.cons (o := { dst := some 51, op := _, type := _, pos := _, after := _, guard := none }) rfl (fun K hK => ?_) (AllReadyH.cons (o := { dst := some 53, op := _, type := _, pos := _, after := _, guard := none }) rfl (fun K hK => ?_) AllReadyH.nil))
    ·
      have q0 := KK.out.1.box.c 0 rfl
      go_simp
      refine hK.out _ _ hHeld (fun hHeld => ?_)
      clear hK K q0
      refine wpAnyH_ready (rs := [7]) (by kernel_rfl) (by simp) (AllReadyH.cons (o := { dst := some 53, op := _, type := _, pos := _, after := _, guard := none }) rfl (fun K hK => ?_) AllReadyH.nil)
      go_simp
      refine hK.out _ _ (hHeld.alloc _) (fun hHeld => ?_)
      obtain ⟨BR, hBR⟩ : ∃ BR, BR = y0.heap.size := ⟨_, rfl⟩
      have KN : Hid (PM w g m B S1 vr vl ve vz vs (y0.alloc (.cells #[.string r.nm, .int .i64 r.fr, .int .i64 r.tt, .int .i64 r.mo, .int .i64 r.oa, .int .i64 r.ob, .int .i64 r.oc, .int .i64 r.ta, .int .u8 r.tz, .int .i64 r.sv, .string r.lt] 85)) ∧ Bx (y0.alloc (.cells #[.string r.nm, .int .i64 r.fr, .int .i64 r.tt, .int .i64 r.mo, .int .i64 r.oa, .int .i64 r.ob, .int .i64 r.oc, .int .i64 r.ta, .int .u8 r.tz, .int .i64 r.sv, .string r.lt] 85)) BR r.cs ∧ Bx (y0.alloc (.cells #[.string r.nm, .int .i64 r.fr, .int .i64 r.tt, .int .i64 r.mo, .int .i64 r.oa, .int .i64 r.ob, .int .i64 r.oc, .int .i64 r.ta, .int .u8 r.tz, .int .i64 r.sv, .string r.lt] 85)) rb r.cs) := ⟨KK.out.1.below ((Below.refl _ _).alloc (Nat.le_refl _) _), by rw [hBR]; exact Bx.new y0 r.cs _, KK.out.2.alloc _⟩
      refine gen_any (fun V' => (PM w g m B S1 vr vl ve vz vs V' ∧ Bx V' BR r.cs ∧ Bx V' rb r.cs)) KN.out ?_
      rw [← hBR]
      clear hHeld hK K KN hBR KK
      intro v2 kk
      have KK : Hid (PM w g m B S1 vr vl ve vz vs v2 ∧ Bx v2 BR r.cs) := ⟨kk.1, kk.2.1⟩
      have hHeld : Bx v2 rb r.cs := kk.2.2
      clear kk
      refine wpAnyH_ready (rs := [8]) (by kernel_rfl) (by simp) (AllReadyH.cons (o := { dst := some 54, op := _, type := _, pos := _, after := _, guard := none }) rfl (fun K hK => ?_) AllReadyH.nil)
      have HOw : Hid (v2.ownsRow B 85 11 vr S.rules.length (ruleXs S.rules)) := by have := KK.out.1.fam.get 0 rfl; rw [← hS1] at this; exact this
      refine (if_pos (by kernel_rfl)).mpr (wp_append_newP _ _ 22 rfl B 85 i0 ruleZ 11 104 Tryz.underlying22 hi0 iz0 iz1 iz2 rfl (by decide) vr S.rules.length (ruleXs S.rules) rfl HOw.out ⟨BR, 0, none⟩ 1 r.cs rfl rfl (fun j u hj => by rw [show (⟨BR, 0, none⟩ : Addr).add j = ⟨BR, j, none⟩ from by rw [Addr.add_lit]; simp]; exact (KK.out.2.2 j u hj).1) (rule_oneP r) (by unfold maxLen; omega) (by omega) KK.out.1.BV ?_)
      intro v' w4 hown' hgrow hnew
      obtain ⟨sq', sn', sc', hv'⟩ := own_sliceP hown'
      subst hv'
      have HQ : Hid ((PM w g m B S2 (.slice sq' sn' sc') vl ve vz vs (w4.setCell ⟨g, 0, none⟩ (.slice sq' sn' sc'))) ∧ Bx (w4.setCell ⟨g, 0, none⟩ (.slice sq' sn' sc')) rb r.cs ∧ Bx w4 rb r.cs) := by
        have q1 := KK.out.1.ruled r (by rw [← hS1] at *; exact hgrow) hnew (by rw [← hS1]; exact hown')
        rw [← hS1] at q1
        have q2 : Bx w4 rb r.cs := bx_growP hHeld hgrow (fun e => by have := (own_ltP (h.fam.get 0 rfl) e).2; omega)
        exact ⟨by rw [← hS2]; exact q1, q2.set9 (by have := h.lt; omega) _, q2⟩
      have HBX : Hid (Bx w4 g _) := KK.out.1.grownBox hgrow (fun c e => (own_ltP HOw.out e).1)
      refine hK.out _ _ HQ.out.2.2 (fun hHeld => ?_)
      clear hK K hown' hgrow hnew HOw KK
      refine wpAnyH_take (i := 9) (v := ?_) (oi := { dst := some 55, op := _, type := _, pos := _, after := _, guard := none }) rfl (by kernel_rfl) (by kernel_rfl) (by kernel_rfl) (fun _ _ _ h => h) (Or.inl ⟨by kernel_rfl, ?_⟩) (by assumption) ?_
      case refine_2 => (intro w9 hSw; clear hSw; go_simp; try with_reducible rfl)
      simp only [Act.put, List.setIfInBounds_toArray, List.set_cons_zero, List.set_cons_succ]
      refine wpAnyH_take (i := 10) (v := ?_) (oi := { dst := some 56, op := _, type := _, pos := _, after := _, guard := none }) rfl (by kernel_rfl) (by kernel_rfl) (by kernel_rfl) (fun _ _ _ h => h) (Or.inl ⟨by kernel_rfl, ?_⟩) (by assumption) ?_
      case refine_2 => (intro w9 hSw; clear hSw; go_simp; try with_reducible rfl)
      simp only [Act.put, List.setIfInBounds_toArray, List.set_cons_zero, List.set_cons_succ]
      refine wpAnyH_take (i := 11) (v := ?_) (oi := { dst := some 57, op := _, type := _, pos := _, after := _, guard := none }) rfl (by kernel_rfl) (by kernel_rfl) (by kernel_rfl) (fun _ _ _ h => h) (Or.inl ⟨by kernel_rfl, ?_⟩) (by assumption) ?_
      case refine_2 => (intro w9 hSw; clear hSw; go_simp; try with_reducible rfl)
      simp only [Act.put, List.setIfInBounds_toArray, List.set_cons_zero, List.set_cons_succ]
      refine wpAnyH_ready (rs := [12]) (by kernel_rfl) (by simp) (AllReadyH.cons (o := { dst := none, op := _, type := _, pos := _, after := _, guard := none }) rfl (fun K hK => ?_) AllReadyH.nil)
      have c2 := HBX.out.c 0 rfl
      have z2 := HBX.out.f 0 rfl
      have h4 := HBX.out.1
      go_simp
      refine hK.out _ _ HQ.out.2.1 (fun hHeld => ?_)
      refine gen_any (fun V' => PM w g m B S2 (.slice sq' sn' sc') vl ve vz vs V') HQ.out.1 ?_
      clear hHeld hK K HQ HBX c2 z2 h4
      intro v4 kk
      have KK : Hid (PM w g m B S2 (.slice sq' sn' sc') vl ve vz vs v4) := kk
      clear kk
      refine wpAnyH_done (by kernel_rfl) ?_ _
      go_wp2_with fail
      go_ret
      exact ⟨rfl, _, KK.out⟩
    ·
      go_simp
      refine hK.out _ _ (hHeld.alloc _) (fun hHeld => ?_)
      obtain ⟨BR, hBR⟩ : ∃ BR, BR = y0.heap.size := ⟨_, rfl⟩
      have KN : Hid (PM w g m B S1 vr vl ve vz vs (y0.alloc (.cells #[.string r.nm, .int .i64 r.fr, .int .i64 r.tt, .int .i64 r.mo, .int .i64 r.oa, .int .i64 r.ob, .int .i64 r.oc, .int .i64 r.ta, .int .u8 r.tz, .int .i64 r.sv, .string r.lt] 85)) ∧ Bx (y0.alloc (.cells #[.string r.nm, .int .i64 r.fr, .int .i64 r.tt, .int .i64 r.mo, .int .i64 r.oa, .int .i64 r.ob, .int .i64 r.oc, .int .i64 r.ta, .int .u8 r.tz, .int .i64 r.sv, .string r.lt] 85)) BR r.cs ∧ Bx (y0.alloc (.cells #[.string r.nm, .int .i64 r.fr, .int .i64 r.tt, .int .i64 r.mo, .int .i64 r.oa, .int .i64 r.ob, .int .i64 r.oc, .int .i64 r.ta, .int .u8 r.tz, .int .i64 r.sv, .string r.lt] 85)) rb r.cs) := ⟨KK.out.1.below ((Below.refl _ _).alloc (Nat.le_refl _) _), by rw [hBR]; exact Bx.new y0 r.cs _, KK.out.2.alloc _⟩
      refine gen_any (fun V' => (PM w g m B S1 vr vl ve vz vs V' ∧ Bx V' BR r.cs ∧ Bx V' rb r.cs)) KN.out ?_
      rw [← hBR]
      clear hHeld hK K KN hBR KK
      intro v5 kk
      have KK : Hid (PM w g m B S1 vr vl ve vz vs v5 ∧ Bx v5 BR r.cs) := ⟨kk.1, kk.2.1⟩
      have hHeld : Bx v5 rb r.cs := kk.2.2
      clear kk
      refine wpAnyH_ready (rs := [5]) (by kernel_rfl) (by simp) (AllReadyH.cons (o := { dst := some 51, op := _, type := _, pos := _, after := _, guard := none }) rfl (fun K hK => ?_) AllReadyH.nil)
      have q0 := KK.out.1.box.c 0 rfl
      go_simp
      refine hK.out _ _ hHeld (fun hHeld => ?_)
      clear hK K q0
      refine wpAnyH_ready (rs := [8]) (by kernel_rfl) (by simp) (AllReadyH.cons (o := { dst := some 54, op := _, type := _, pos := _, after := _, guard := none }) rfl (fun K hK => ?_) AllReadyH.nil)
      have HOw : Hid (v5.ownsRow B 85 11 vr S.rules.length (ruleXs S.rules)) := by have := KK.out.1.fam.get 0 rfl; rw [← hS1] at this; exact this
      refine (if_pos (by kernel_rfl)).mpr (wp_append_newP _ _ 22 rfl B 85 i0 ruleZ 11 104 Tryz.underlying22 hi0 iz0 iz1 iz2 rfl (by decide) vr S.rules.length (ruleXs S.rules) rfl HOw.out ⟨BR, 0, none⟩ 1 r.cs rfl rfl (fun j u hj => by rw [show (⟨BR, 0, none⟩ : Addr).add j = ⟨BR, j, none⟩ from by rw [Addr.add_lit]; simp]; exact (KK.out.2.2 j u hj).1) (rule_oneP r) (by unfold maxLen; omega) (by omega) KK.out.1.BV ?_)
      intro v' w4 hown' hgrow hnew
      obtain ⟨sq', sn', sc', hv'⟩ := own_sliceP hown'
      subst hv'
      have HQ : Hid ((PM w g m B S2 (.slice sq' sn' sc') vl ve vz vs (w4.setCell ⟨g, 0, none⟩ (.slice sq' sn' sc'))) ∧ Bx (w4.setCell ⟨g, 0, none⟩ (.slice sq' sn' sc')) rb r.cs ∧ Bx w4 rb r.cs) := by
        have q1 := KK.out.1.ruled r (by rw [← hS1] at *; exact hgrow) hnew (by rw [← hS1]; exact hown')
        rw [← hS1] at q1
        have q2 : Bx w4 rb r.cs := bx_growP hHeld hgrow (fun e => by have := (own_ltP (h.fam.get 0 rfl) e).2; omega)
        exact ⟨by rw [← hS2]; exact q1, q2.set9 (by have := h.lt; omega) _, q2⟩
      have HBX : Hid (Bx w4 g _) := KK.out.1.grownBox hgrow (fun c e => (own_ltP HOw.out e).1)
      refine hK.out _ _ HQ.out.2.2 (fun hHeld => ?_)
      clear hK K hown' hgrow hnew HOw KK
      refine wpAnyH_take (i := 9) (v := ?_) (oi := { dst := some 55, op := _, type := _, pos := _, after := _, guard := none }) rfl (by kernel_rfl) (by kernel_rfl) (by kernel_rfl) (fun _ _ _ h => h) (Or.inl ⟨by kernel_rfl, ?_⟩) (by assumption) ?_
      case refine_2 => (intro w9 hSw; clear hSw; go_simp; try with_reducible rfl)
      simp only [Act.put, List.setIfInBounds_toArray, List.set_cons_zero, List.set_cons_succ]
      refine wpAnyH_take (i := 10) (v := ?_) (oi := { dst := some 56, op := _, type := _, pos := _, after := _, guard := none }) rfl (by kernel_rfl) (by kernel_rfl) (by kernel_rfl) (fun _ _ _ h => h) (Or.inl ⟨by kernel_rfl, ?_⟩) (by assumption) ?_
      case refine_2 => (intro w9 hSw; clear hSw; go_simp; try with_reducible rfl)
      simp only [Act.put, List.setIfInBounds_toArray, List.set_cons_zero, List.set_cons_succ]
      refine wpAnyH_take (i := 11) (v := ?_) (oi := { dst := some 57, op := _, type := _, pos := _, after := _, guard := none }) rfl (by kernel_rfl) (by kernel_rfl) (by kernel_rfl) (fun _ _ _ h => h) (Or.inl ⟨by kernel_rfl, ?_⟩) (by assumption) ?_
      case refine_2 => (intro w9 hSw; clear hSw; go_simp; try with_reducible rfl)
      simp only [Act.put, List.setIfInBounds_toArray, List.set_cons_zero, List.set_cons_succ]
      refine wpAnyH_ready (rs := [12]) (by kernel_rfl) (by simp) (AllReadyH.cons (o := { dst := none, op := _, type := _, pos := _, after := _, guard := none }) rfl (fun K hK => ?_) AllReadyH.nil)
      have c2 := HBX.out.c 0 rfl
      have z2 := HBX.out.f 0 rfl
      have h4 := HBX.out.1
      go_simp
      refine hK.out _ _ HQ.out.2.1 (fun hHeld => ?_)
      refine gen_any (fun V' => PM w g m B S2 (.slice sq' sn' sc') vl ve vz vs V') HQ.out.1 ?_
      clear hHeld hK K HQ HBX c2 z2 h4
      intro v8 kk
      have KK : Hid (PM w g m B S2 (.slice sq' sn' sc') vl ve vz vs v8) := kk
      clear kk
      refine wpAnyH_done (by kernel_rfl) ?_ _
      go_wp2_with fail
      go_ret
      exact ⟨rfl, _, KK.out⟩

end Go.Proofs.YtgnfkkcagbbhmaaGreatDoor
