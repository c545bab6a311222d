/- Contracts: src.readZone of any fields; takeZone of src's parser. -/
import Derived.Test.YtgnfkkcagbbhmaaGreatDoorPmHq
namespace Go.Proofs.YtgnfkkcagbbhmaaGreatDoor
open Go.RowKit
open Sr (gen_any gen_list)
set_option linter.unusedVariables false

theorem wpl_append_newP {P : Program} {w : World} {ops : Array Oper} {rest : List Oper} {o : Oper} {a : Act} {Q : Exit → Act → World → Prop} (hgd : o.guard = none) (s x : Operand) (t : TypeId)
    (ho : o.op = .call { callee := .builtin .append, args := #[s, x], argTypes := #[t, t] })
    (base : Nat) (e : TypeId) (i : TypeInfo) (z : Value) (size bytes : Nat) (ht : P.underlying t = some (.slice e)) (hi : P.info? e = some i) (hz : i.zero = some z)
    (hsize : i.size = size) (hby : i.bytes = bytes) (hzs : z.cells.size = size) (hsz : 0 < size)
    (v : Value) (n : Nat) (xs : List Value) (hs : a.eval s = v) (hown : w.ownsRow base e size v n xs)
    (ad : Addr) (c : Nat) (news : List Value) (hx : a.eval x = .slice (some ad) 1 c) (hl : news.length = 1 * size) (hnews : ∀ j u, news[j]? = some u → w.cell? (ad.add j) = some u) (h1 : ∀ u ∈ news, u.oneCell' = true)
    (h63 : n + 1 ≤ maxLen) (hbytes : (n + 1) * bytes ≤ 140737488355328) (hbase : base ≤ w.heap.size)
    (h : ∀ v' w', w'.ownsRow base e size v' (n + 1) (xs ++ news) → w.grownBy w' v.ownBlock → (∀ k, v'.ownBlock = some k → v.ownBlock = some k ∨ k = w.heap.size) → wpList P ops Q rest (a.put o.dst v') w') : wpList P ops Q (o :: rest) a w := by
  refine wpList_plain hgd fun K hK => ?_
  obtain ⟨v', w', hr, h2, h3, h4⟩ := append_newP (P := P) w base t o.type e i z size bytes ht hi hz hsize hby hzs hsz v n xs hown ad c news hl hnews h1 h63 hbytes hbase
  unfold Oper.wp
  simp [execOp, ho, resolve, invoke, builtin, hs, hx, hr, Result.andThen]
  exact hK _ _ (h v' w' h2 h3 h4)
theorem readZone_any (F : List ByteArray) (hF : ∀ f ∈ F, Few f) : ∃ (nm : ByteArray) (r : EraT) (b : Bool), zoneF F = (if b = true then some (nm, r) else none) ∧
    ∀ (a : Option Addr) (c : Nat) (w : World), F.length ≤ c → FdA w a F →
      Calls Tryz.prog 81 #[.slice a F.length c] w fun e w' => e = .returned (.tuple #[.string nm, .agg #[.int .i64 r.off, .string r.rl, .int .i64 r.sv, .string r.fm, .int .i64 r.u.y, .int .i64 r.u.mo, .int .i64 r.u.oa, .int .i64 r.u.ob, .int .i64 r.u.oc, .int .i64 r.u.ta, .int .u8 r.u.tz], .bool b]) ∧ Below w.heap.size w w' := by
  match F, hF with
  | [], _ => exact ⟨⟨#[]⟩, zEraT, false, rfl, fun a c w hc HA => readZone_none a c w⟩
  | f :: R, hF =>
    simp only [List.forall_mem_cons] at hF
    obtain ⟨r, b, hr, hz, HR⟩ := readEra_any R hF.2
    have HK : ∀ r ∈ [rdNm f], r.ok := by
      simp only [List.forall_mem_cons]
      exact ⟨rdNm_ok hF.1, fun r hr => by cases hr⟩
    have ER : ∀ (A : Option Addr) (c : Nat) (w : World), R.length + 1 ≤ c → FdA w A R → ∀ W : World, Below w.heap.size w W → Calls Tryz.prog 77 #[.slice A R.length (c - 1)] W fun e W' => e = .returned (.tuple #[.agg #[.int .i64 r.off, .string r.rl, .int .i64 r.sv, .string r.fm, .int .i64 r.u.y, .int .i64 r.u.mo, .int .i64 r.u.oa, .int .i64 r.u.ob, .int .i64 r.u.oc, .int .i64 r.u.ta, .int .u8 r.u.tz], .bool b]) ∧ Below W.heap.size W W' :=
      fun A c w hc H W hb => HR A (c - 1) W (by omega) (H.below hb)
    by_cases hok : (nameB f && b) = true
    · have hok2 := hok
      simp only [Bool.and_eq_true] at hok2
      obtain ⟨hn, hb⟩ := hok2
      subst hb
      refine ⟨f, r, true, by simp only [zoneF, hr, if_pos hn, if_pos], fun a c w hc HA => ?_⟩
      obtain ⟨g, o, rfl, hg, H⟩ := HA (by simp)
      exact readZone_yes f R.length g o c r _ (by show [rdNm f] = _; simp only [rdNm, hn]) HK w hg hc (fun j r hj => H j r.f (by match j, hj with | 0, hj => (cases hj; rfl) | j + 1, hj => (simp at hj))) _ rfl (ER _ c w hc (H.cut hg 1 c hc rfl))
    · refine ⟨⟨#[]⟩, zEraT, false, ?_, fun a c w hc HA => ?_⟩
      · cases b with
        | false => simp only [zoneF, hr]; rfl
        | true => simp only [zoneF, hr, if_pos]; rw [if_neg (by simpa using hok)]; rfl
      · obtain ⟨g, o, rfl, hg, H⟩ := HA (by simp)
        exact readZone_no f R.length g o c r (nameB f) b (by simpa using hok) [rdNm f] rfl HK w hg hc (fun j r hj => H j r.f (by match j, hj with | 0, hj => (cases hj; rfl) | j + 1, hj => (simp at hj))) _ rfl (ER _ c w hc (H.cut hg 1 c hc rfl))

def zoneZ : Value := .agg #[.string ByteArray.empty, .slice none 0 0]
theorem infoZoneP : (Tryz.prog.info? 90).map (fun i => (i.zero, i.size, i.bytes)) = some (some zoneZ, 2, 40) := by kernel_rfl

set_option maxRecDepth 100000 in
set_option maxHeartbeats 1000000 in
theorem takeZone_no (n : Int) (fb fo k c : Nat) (nm : ByteArray) (r : EraT) (A : Option Addr) (hA : Hid ((if c = 1 then some (⟨fb, fo, none⟩ : Addr) else some ⟨fb, fo + 1, none⟩) = A)) (hkc : k + 1 ≤ c) (g : Nat) (V : World)
    (RR : Hid (∀ W : World, Below V.heap.size V W → Calls Tryz.prog 81 #[.slice A k (c - 1)] W fun e W' => e = .returned (.tuple #[.string nm, .agg #[.int .i64 r.off, .string r.rl, .int .i64 r.sv, .string r.fm, .int .i64 r.u.y, .int .i64 r.u.mo, .int .i64 r.u.oa, .int .i64 r.u.ob, .int .i64 r.u.oc, .int .i64 r.u.ta, .int .u8 r.u.tz], .bool false]) ∧ Below W.heap.size W W')) :
    Calls Tryz.prog 50 #[.pointer (some ⟨g, 0, none⟩), .agg #[.int .i64 n, .slice (some ⟨fb, fo, none⟩) (k + 1) c]] V fun e W' => e = .returned (.int .i64 21) ∧ Below V.heap.size V W' := by
  have h1 : (1 : Int) ≤ (k : Int) + 1 := by omega
  have h2 : (k : Int) + 1 ≤ (c : Int) := by omega
  have h3 : (1 : Int) ≤ (c : Int) := by omega
  have B1 : Hid (Below V.heap.size V (V.alloc (.cells #[.int .i64 n, .slice (some ⟨fb, fo, none⟩) (k + 1) c] 54))) := (Below.refl _ _).alloc (Nat.le_refl _) _
  have L1 : Hid (Bx (V.alloc (.cells #[.int .i64 n, .slice (some ⟨fb, fo, none⟩) (k + 1) c] 54)) V.heap.size [.int .i64 n, .slice (some ⟨fb, fo, none⟩) (k + 1) c]) := Bx.new V [.int .i64 n, .slice (some ⟨fb, fo, none⟩) (k + 1) c] _
  have hA2 : _ = _ := hA.out
  go_enter Tryz.func50, Tryz.ntmps50
  go_wp2_with fail
  refine (RR.out _ B1.out).mono ?_
  rintro e W1 ⟨rfl, hb⟩
  go_wp2
  go_ret
  have q : Below V.heap.size V W1 := NBs hb
  exact ⟨rfl, q.alloc q.size _⟩

set_option maxRecDepth 100000 in
set_option maxHeartbeats 1000000 in
theorem takeZone_size (n : Int) (fb fo k c : Nat) (nm : ByteArray) (r : EraT) (A : Option Addr) (hA : Hid ((if c = 1 then some (⟨fb, fo, none⟩ : Addr) else some ⟨fb, fo + 1, none⟩) = A)) (hkc : k + 1 ≤ c) (w : World) (g m B : Nat) (S : PSt) (vr vl ve vz : Value) (vs : List Value) (V : World) (h : PM w g m B S vr vl ve vz vs V) (hz : S.zones.length = 16)
    (RR : Hid (∀ W : World, Below V.heap.size V W → Calls Tryz.prog 81 #[.slice A k (c - 1)] W fun e W' => e = .returned (.tuple #[.string nm, .agg #[.int .i64 r.off, .string r.rl, .int .i64 r.sv, .string r.fm, .int .i64 r.u.y, .int .i64 r.u.mo, .int .i64 r.u.oa, .int .i64 r.u.ob, .int .i64 r.u.oc, .int .i64 r.u.ta, .int .u8 r.u.tz], .bool true]) ∧ Below W.heap.size W W')) :
    Calls Tryz.prog 50 #[.pointer (some ⟨g, 0, none⟩), .agg #[.int .i64 n, .slice (some ⟨fb, fo, none⟩) (k + 1) c]] V fun e W' => e = .returned (.int .i64 3) ∧ Below V.heap.size V W' := by
  have h1 : (1 : Int) ≤ (k : Int) + 1 := by omega
  have h2 : (k : Int) + 1 ≤ (c : Int) := by omega
  have h3 : (1 : Int) ≤ (c : Int) := by omega
  have B1 : Hid (Below V.heap.size V (V.alloc (.cells #[.int .i64 n, .slice (some ⟨fb, fo, none⟩) (k + 1) c] 54))) := (Below.refl _ _).alloc (Nat.le_refl _) _
  have L1 : Hid (Bx (V.alloc (.cells #[.int .i64 n, .slice (some ⟨fb, fo, none⟩) (k + 1) c] 54)) V.heap.size [.int .i64 n, .slice (some ⟨fb, fo, none⟩) (k + 1) c]) := Bx.new V [.int .i64 n, .slice (some ⟨fb, fo, none⟩) (k + 1) c] _
  have hA2 : _ = _ := hA.out
  go_enter Tryz.func50, Tryz.ntmps50
  go_wp2_with fail
  refine (RR.out _ B1.out).mono ?_
  rintro e W1 ⟨rfl, hb⟩
  have hB1 : Hid (Below V.heap.size V W1) := NBs hb
  have hL1 := L1.out.below hb
  obtain ⟨rb, hrb⟩ : ∃ rb, rb = W1.heap.size := ⟨_, rfl⟩
  obtain ⟨lb, hlb⟩ : ∃ lb, lb = V.heap.size := ⟨_, rfl⟩
  have hVrb : V.heap.size ≤ rb := by rw [hrb]; exact hB1.out.size
  obtain ⟨az, cz, hvz, hz1, hz2, -⟩ := own_rowP (h.fam.get 3 rfl)
  simp only at hvz hz1
  subst hvz
  have E0 : Hid (Below V.heap.size V (W1.alloc (.cells #[.int .i64 r.off, .string r.rl, .int .i64 r.sv, .string r.fm, .int .i64 r.u.y, .int .i64 r.u.mo, .int .i64 r.u.oa, .int .i64 r.u.ob, .int .i64 r.u.oc, .int .i64 r.u.ta, .int .u8 r.u.tz] 94)) ∧ PM w g m B S vr vl ve (.slice az S.zones.length cz) vs (W1.alloc (.cells #[.int .i64 r.off, .string r.rl, .int .i64 r.sv, .string r.fm, .int .i64 r.u.y, .int .i64 r.u.mo, .int .i64 r.u.oa, .int .i64 r.u.ob, .int .i64 r.u.oc, .int .i64 r.u.ta, .int .u8 r.u.tz] 94)) ∧ Bx (W1.alloc (.cells #[.int .i64 r.off, .string r.rl, .int .i64 r.sv, .string r.fm, .int .i64 r.u.y, .int .i64 r.u.mo, .int .i64 r.u.oa, .int .i64 r.u.ob, .int .i64 r.u.oc, .int .i64 r.u.ta, .int .u8 r.u.tz] 94)) lb [.int .i64 n, .slice (some ⟨fb, fo, none⟩) (k + 1) c] ∧ Bx (W1.alloc (.cells #[.int .i64 r.off, .string r.rl, .int .i64 r.sv, .string r.fm, .int .i64 r.u.y, .int .i64 r.u.mo, .int .i64 r.u.oa, .int .i64 r.u.ob, .int .i64 r.u.oc, .int .i64 r.u.ta, .int .u8 r.u.tz] 94)) rb r.cs) := ⟨hB1.out.alloc hB1.out.size _, h.below (hB1.out.alloc hB1.out.size _), by rw [hlb]; exact hL1.alloc _, by rw [hrb]; exact Bx.new W1 r.cs _⟩
  clear hb hB1 B1 hA2 h1 h2 h3 hL1 L1
  go_upto_region 4 with fail
  refine gen_code (fun W => (Below V.heap.size V W ∧ PM w g m B S vr vl ve (.slice az S.zones.length cz) vs W ∧ Bx W lb [.int .i64 n, .slice (some ⟨fb, fo, none⟩) (k + 1) c] ∧ Bx W rb r.cs)) E0.out ?_
  clear E0
  intro w1 hE
  have KK : Hid (Below V.heap.size V w1 ∧ PM w g m B S vr vl ve (.slice az S.zones.length cz) vs w1 ∧ Bx w1 lb [.int .i64 n, .slice (some ⟨fb, fo, none⟩) (k + 1) c] ∧ Bx w1 rb r.cs) := hE
  clear hE
  rw [← hrb]
  have hVl : V.heap.size ≤ lb := by omega
  have hlV : lb = V.heap.size := hlb
  rw [← hlb]
  clear hrb hlb
  have HLV : Hid (lb = V.heap.size) := hlV
  clear hlV
  have c1 := KK.out.2.1.box.c 1 rfl
  have hz' : (S.zones.length : Int) = 16 := by omega
  go_wp2_with fail
  go_ret
  exact ⟨rfl, KK.out.1⟩

set_option maxRecDepth 100000 in
set_option maxHeartbeats 1000000 in
theorem takeZone_name (n : Int) (fb fo k c : Nat) (nm : ByteArray) (r : EraT) (A : Option Addr) (hA : Hid ((if c = 1 then some (⟨fb, fo, none⟩ : Addr) else some ⟨fb, fo + 1, none⟩) = A)) (hkc : k + 1 ≤ c) (w : World) (g m B : Nat) (S : PSt) (vr vl ve vz : Value) (vs : List Value) (V : World) (h : PM w g m B S vr vl ve vz vs V) (hz : S.zones.length ≠ 16) (hs : nm.size ≤ maxLen) (hZ : Hid (∀ z ∈ S.zones, z.1.size ≤ maxLen)) (hL : Hid (∀ l ∈ S.links, l.2.size ≤ maxLen)) (ht : takenB S nm = true)
    (RR : Hid (∀ W : World, Below V.heap.size V W → Calls Tryz.prog 81 #[.slice A k (c - 1)] W fun e W' => e = .returned (.tuple #[.string nm, .agg #[.int .i64 r.off, .string r.rl, .int .i64 r.sv, .string r.fm, .int .i64 r.u.y, .int .i64 r.u.mo, .int .i64 r.u.oa, .int .i64 r.u.ob, .int .i64 r.u.oc, .int .i64 r.u.ta, .int .u8 r.u.tz], .bool true]) ∧ Below W.heap.size W W')) :
    Calls Tryz.prog 50 #[.pointer (some ⟨g, 0, none⟩), .agg #[.int .i64 n, .slice (some ⟨fb, fo, none⟩) (k + 1) c]] V fun e W' => e = .returned (.int .i64 23) ∧ Below V.heap.size V W' := by
  have h1 : (1 : Int) ≤ (k : Int) + 1 := by omega
  have h2 : (k : Int) + 1 ≤ (c : Int) := by omega
  have h3 : (1 : Int) ≤ (c : Int) := by omega
  have B1 : Hid (Below V.heap.size V (V.alloc (.cells #[.int .i64 n, .slice (some ⟨fb, fo, none⟩) (k + 1) c] 54))) := (Below.refl _ _).alloc (Nat.le_refl _) _
  have L1 : Hid (Bx (V.alloc (.cells #[.int .i64 n, .slice (some ⟨fb, fo, none⟩) (k + 1) c] 54)) V.heap.size [.int .i64 n, .slice (some ⟨fb, fo, none⟩) (k + 1) c]) := Bx.new V [.int .i64 n, .slice (some ⟨fb, fo, none⟩) (k + 1) c] _
  have hA2 : _ = _ := hA.out
  go_enter Tryz.func50, Tryz.ntmps50
  go_wp2_with fail
  refine (RR.out _ B1.out).mono ?_
  rintro e W1 ⟨rfl, hb⟩
  have hB1 : Hid (Below V.heap.size V W1) := NBs hb
  have hL1 := L1.out.below hb
  obtain ⟨rb, hrb⟩ : ∃ rb, rb = W1.heap.size := ⟨_, rfl⟩
  obtain ⟨lb, hlb⟩ : ∃ lb, lb = V.heap.size := ⟨_, rfl⟩
  have hVrb : V.heap.size ≤ rb := by rw [hrb]; exact hB1.out.size
  obtain ⟨az, cz, hvz, hz1, hz2, -⟩ := own_rowP (h.fam.get 3 rfl)
  simp only at hvz hz1
  subst hvz
  have E0 : Hid (Below V.heap.size V (W1.alloc (.cells #[.int .i64 r.off, .string r.rl, .int .i64 r.sv, .string r.fm, .int .i64 r.u.y, .int .i64 r.u.mo, .int .i64 r.u.oa, .int .i64 r.u.ob, .int .i64 r.u.oc, .int .i64 r.u.ta, .int .u8 r.u.tz] 94)) ∧ PM w g m B S vr vl ve (.slice az S.zones.length cz) vs (W1.alloc (.cells #[.int .i64 r.off, .string r.rl, .int .i64 r.sv, .string r.fm, .int .i64 r.u.y, .int .i64 r.u.mo, .int .i64 r.u.oa, .int .i64 r.u.ob, .int .i64 r.u.oc, .int .i64 r.u.ta, .int .u8 r.u.tz] 94)) ∧ Bx (W1.alloc (.cells #[.int .i64 r.off, .string r.rl, .int .i64 r.sv, .string r.fm, .int .i64 r.u.y, .int .i64 r.u.mo, .int .i64 r.u.oa, .int .i64 r.u.ob, .int .i64 r.u.oc, .int .i64 r.u.ta, .int .u8 r.u.tz] 94)) lb [.int .i64 n, .slice (some ⟨fb, fo, none⟩) (k + 1) c] ∧ Bx (W1.alloc (.cells #[.int .i64 r.off, .string r.rl, .int .i64 r.sv, .string r.fm, .int .i64 r.u.y, .int .i64 r.u.mo, .int .i64 r.u.oa, .int .i64 r.u.ob, .int .i64 r.u.oc, .int .i64 r.u.ta, .int .u8 r.u.tz] 94)) rb r.cs) := ⟨hB1.out.alloc hB1.out.size _, h.below (hB1.out.alloc hB1.out.size _), by rw [hlb]; exact hL1.alloc _, by rw [hrb]; exact Bx.new W1 r.cs _⟩
  clear hb hB1 B1 hA2 h1 h2 h3 hL1 L1
  go_upto_region 4 with fail
  refine gen_code (fun W => (Below V.heap.size V W ∧ PM w g m B S vr vl ve (.slice az S.zones.length cz) vs W ∧ Bx W lb [.int .i64 n, .slice (some ⟨fb, fo, none⟩) (k + 1) c] ∧ Bx W rb r.cs)) E0.out ?_
  clear E0
  intro w1 hE
  have KK : Hid (Below V.heap.size V w1 ∧ PM w g m B S vr vl ve (.slice az S.zones.length cz) vs w1 ∧ Bx w1 lb [.int .i64 n, .slice (some ⟨fb, fo, none⟩) (k + 1) c] ∧ Bx w1 rb r.cs) := hE
  clear hE
  rw [← hrb]
  have hVl : V.heap.size ≤ lb := by omega
  have hlV : lb = V.heap.size := hlb
  rw [← hlb]
  clear hrb hlb
  have HLV : Hid (lb = V.heap.size) := hlV
  clear hlV
  have c1 := KK.out.2.1.box.c 1 rfl
  have hz' : ¬ (S.zones.length : Int) = 16 := by omega
  go_upto_region 6 with fail
  clear c1
  go_wp2_with fail
  refine (ptaken_any w g m B S vr vl ve _ vs _ KK.out.2.1 nm hs hZ hL).mono ?_
  rintro e w2 ⟨rfl, hb2⟩
  have K2 : Hid (Below V.heap.size V w2 ∧ PM w g m B S vr vl ve (.slice az S.zones.length cz) vs w2 ∧ Bx w2 lb [.int .i64 n, .slice (some ⟨fb, fo, none⟩) (k + 1) c] ∧ Bx w2 rb r.cs) := ⟨KK.out.1.trans (hb2.mono KK.out.1.size), KK.out.2.1.below hb2, KK.out.2.2.1.below hb2, KK.out.2.2.2.below hb2⟩
  clear KK hb2
  rw [ht]
  go_wp2_with fail
  go_ret
  exact ⟨rfl, K2.out.1⟩

set_option maxRecDepth 100000 in
set_option maxHeartbeats 1000000 in
theorem takeZone_yes (n : Int) (fb fo k c : Nat) (nm : ByteArray) (r : EraT) (A : Option Addr) (hA : Hid ((if c = 1 then some (⟨fb, fo, none⟩ : Addr) else some ⟨fb, fo + 1, none⟩) = A)) (hkc : k + 1 ≤ c) (w : World) (g m B : Nat) (S : PSt) (vr vl ve vz : Value) (vs : List Value) (V : World) (h : PM w g m B S vr vl ve vz vs V) (hz : S.zones.length ≠ 16) (hN : S.zones.length ≤ 100000) (he9 : S.eras.length ≤ 100000) (hs : nm.size ≤ maxLen) (hZ : Hid (∀ z ∈ S.zones, z.1.size ≤ maxLen)) (hL : Hid (∀ l ∈ S.links, l.2.size ≤ maxLen)) (ht : takenB S nm = false)
    (RR : Hid (∀ W : World, Below V.heap.size V W → Calls Tryz.prog 81 #[.slice A k (c - 1)] W fun e W' => e = .returned (.tuple #[.string nm, .agg #[.int .i64 r.off, .string r.rl, .int .i64 r.sv, .string r.fm, .int .i64 r.u.y, .int .i64 r.u.mo, .int .i64 r.u.oa, .int .i64 r.u.ob, .int .i64 r.u.oc, .int .i64 r.u.ta, .int .u8 r.u.tz], .bool true]) ∧ Below W.heap.size W W')) :
    Calls Tryz.prog 50 #[.pointer (some ⟨g, 0, none⟩), .agg #[.int .i64 n, .slice (some ⟨fb, fo, none⟩) (k + 1) c]] V fun e W' => e = .returned (.int .i64 0) ∧ ∃ ve' vz' vs', PM w g m B (addF { S with zones := S.zones ++ [(nm, [])] } n r) vr vl ve' vz' vs' W' := by
  obtain ⟨S1, hS1⟩ : ∃ S1, { S with zones := S.zones ++ [(nm, [])] } = S1 := ⟨_, rfl⟩
  rw [hS1]
  obtain ⟨i0, hi0, iz0, iz1, iz2⟩ := info_partsP infoZoneP
  have h1 : (1 : Int) ≤ (k : Int) + 1 := by omega
  have h2 : (k : Int) + 1 ≤ (c : Int) := by omega
  have h3 : (1 : Int) ≤ (c : Int) := by omega
  have B1 : Hid (Below V.heap.size V (V.alloc (.cells #[.int .i64 n, .slice (some ⟨fb, fo, none⟩) (k + 1) c] 54))) := (Below.refl _ _).alloc (Nat.le_refl _) _
  have L1 : Hid (Bx (V.alloc (.cells #[.int .i64 n, .slice (some ⟨fb, fo, none⟩) (k + 1) c] 54)) V.heap.size [.int .i64 n, .slice (some ⟨fb, fo, none⟩) (k + 1) c]) := Bx.new V [.int .i64 n, .slice (some ⟨fb, fo, none⟩) (k + 1) c] _
  have hA2 : _ = _ := hA.out
  go_enter Tryz.func50, Tryz.ntmps50
  go_wp2_with fail
  refine (RR.out _ B1.out).mono ?_
  rintro e W1 ⟨rfl, hb⟩
  have hB1 : Hid (Below V.heap.size V W1) := NBs hb
  have hL1 := L1.out.below hb
  obtain ⟨rb, hrb⟩ : ∃ rb, rb = W1.heap.size := ⟨_, rfl⟩
  obtain ⟨lb, hlb⟩ : ∃ lb, lb = V.heap.size := ⟨_, rfl⟩
  have hVrb : V.heap.size ≤ rb := by rw [hrb]; exact hB1.out.size
  obtain ⟨az, cz, hvz, hz1, hz2, -⟩ := own_rowP (h.fam.get 3 rfl)
  simp only at hvz hz1
  subst hvz
  have E0 : Hid (Below V.heap.size V (W1.alloc (.cells #[.int .i64 r.off, .string r.rl, .int .i64 r.sv, .string r.fm, .int .i64 r.u.y, .int .i64 r.u.mo, .int .i64 r.u.oa, .int .i64 r.u.ob, .int .i64 r.u.oc, .int .i64 r.u.ta, .int .u8 r.u.tz] 94)) ∧ PM w g m B S vr vl ve (.slice az S.zones.length cz) vs (W1.alloc (.cells #[.int .i64 r.off, .string r.rl, .int .i64 r.sv, .string r.fm, .int .i64 r.u.y, .int .i64 r.u.mo, .int .i64 r.u.oa, .int .i64 r.u.ob, .int .i64 r.u.oc, .int .i64 r.u.ta, .int .u8 r.u.tz] 94)) ∧ Bx (W1.alloc (.cells #[.int .i64 r.off, .string r.rl, .int .i64 r.sv, .string r.fm, .int .i64 r.u.y, .int .i64 r.u.mo, .int .i64 r.u.oa, .int .i64 r.u.ob, .int .i64 r.u.oc, .int .i64 r.u.ta, .int .u8 r.u.tz] 94)) lb [.int .i64 n, .slice (some ⟨fb, fo, none⟩) (k + 1) c] ∧ Bx (W1.alloc (.cells #[.int .i64 r.off, .string r.rl, .int .i64 r.sv, .string r.fm, .int .i64 r.u.y, .int .i64 r.u.mo, .int .i64 r.u.oa, .int .i64 r.u.ob, .int .i64 r.u.oc, .int .i64 r.u.ta, .int .u8 r.u.tz] 94)) rb r.cs) := ⟨hB1.out.alloc hB1.out.size _, h.below (hB1.out.alloc hB1.out.size _), by rw [hlb]; exact hL1.alloc _, by rw [hrb]; exact Bx.new W1 r.cs _⟩
  clear hb hB1 B1 hA2 h1 h2 h3 hL1 L1
  go_upto_region 4 with fail
  refine gen_code (fun W => (Below V.heap.size V W ∧ PM w g m B S vr vl ve (.slice az S.zones.length cz) vs W ∧ Bx W lb [.int .i64 n, .slice (some ⟨fb, fo, none⟩) (k + 1) c] ∧ Bx W rb r.cs)) E0.out ?_
  clear E0
  intro w1 hE
  have KK : Hid (Below V.heap.size V w1 ∧ PM w g m B S vr vl ve (.slice az S.zones.length cz) vs w1 ∧ Bx w1 lb [.int .i64 n, .slice (some ⟨fb, fo, none⟩) (k + 1) c] ∧ Bx w1 rb r.cs) := hE
  clear hE
  rw [← hrb]
  have hVl : V.heap.size ≤ lb := by omega
  have hlV : lb = V.heap.size := hlb
  rw [← hlb]
  clear hrb hlb
  have HLV : Hid (lb = V.heap.size) := hlV
  clear hlV
  have c1 := KK.out.2.1.box.c 1 rfl
  have hz' : ¬ (S.zones.length : Int) = 16 := by omega
  go_upto_region 6 with fail
  clear c1
  go_wp2_with fail
  refine (ptaken_any w g m B S vr vl ve _ vs _ KK.out.2.1 nm hs hZ hL).mono ?_
  rintro e w2 ⟨rfl, hb2⟩
  have K2 : Hid (Below V.heap.size V w2 ∧ PM w g m B S vr vl ve (.slice az S.zones.length cz) vs w2 ∧ Bx w2 lb [.int .i64 n, .slice (some ⟨fb, fo, none⟩) (k + 1) c] ∧ Bx w2 rb r.cs) := ⟨KK.out.1.trans (hb2.mono KK.out.1.size), KK.out.2.1.below hb2, KK.out.2.2.1.below hb2, KK.out.2.2.2.below hb2⟩
  clear KK hb2
  rw [ht]
  go_upto_region 8 with fail
  have HOw : Hid (w2.ownsRow B 90 2 (.slice az S.zones.length cz) S.zones.length (zoneXs S.zones vs)) := K2.out.2.1.fam.get 3 rfl
  have q1 := K2.out.2.1.box.c 1 rfl
  go_upto_region 9 with (at_builtin; refine wpl_append_newP rfl _ _ 23 rfl B 90 i0 zoneZ 2 40 Tryz.underlying23 hi0 iz0 iz1 iz2 rfl (by decide) (.slice az S.zones.length cz) S.zones.length (zoneXs S.zones vs) rfl (HOw.out.alloc _) ⟨w2.heap.size, 0, none⟩ 1 [.string nm, .slice none 0 0] rfl rfl (fun j u hj => by rw [show (⟨w2.heap.size, 0, none⟩ : Addr).add j = ⟨w2.heap.size, j, none⟩ from by rw [Addr.add_lit]; simp]; exact ((Bx.new w2 [.string nm, .slice none 0 0] 90).2 j u hj).1) (by intro u hu; simp at hu; rcases hu with rfl | rfl <;> rfl) (by unfold maxLen; omega) (by omega) (Nat.le_trans K2.out.2.1.BV (by simp)) ?_
                         intro v' w4 hown' hgrow hnew
                         obtain ⟨sq', sn', sc', hv'⟩ := own_sliceP hown'
                         subst hv'
                         have hb3 : Below w2.heap.size w2 (w2.alloc (.cells #[.string nm, .slice none 0 0] 90)) := (Below.refl _ _).alloc (Nat.le_refl _) _
                         have hq2 : Bx w4 rb r.cs := bx_growP (K2.out.2.2.2.below hb3) hgrow (fun e => by have := (own_ltP (h.fam.get 3 rfl) e).2; omega)
                         have hq3 : Bx w4 lb [.int .i64 n, .slice (some ⟨fb, fo, none⟩) (k + 1) c] := bx_growP (K2.out.2.2.1.below hb3) hgrow (fun e => by have := (own_ltP (h.fam.get 3 rfl) e).2; omega)
                         have HQ : Hid (PM w g m B S1 vr vl ve (.slice sq' sn' sc') (vs ++ [.slice none 0 0]) (w4.setCell ⟨g, 1, none⟩ (.slice sq' sn' sc')) ∧ Bx (w4.setCell ⟨g, 1, none⟩ (.slice sq' sn' sc')) lb [.int .i64 n, .slice (some ⟨fb, fo, none⟩) (k + 1) c] ∧ Bx (w4.setCell ⟨g, 1, none⟩ (.slice sq' sn' sc')) rb r.cs) := ⟨by rw [← hS1]; exact (K2.out.2.1.below hb3).zoned nm hgrow hnew hown', hq3.set9 (by have := h.lt; omega) _, hq2.set9 (by have := h.lt; omega) _⟩
                         have HBX : Hid (Bx w4 g _) := (K2.out.2.1.below hb3).grownBox hgrow (fun c e => (own_ltP HOw.out e).1)
                         have c2 := HBX.out.c 1 rfl
                         have z2 := HBX.out.f 1 rfl
                         have h4 := HBX.out.1
                         clear hown' hgrow hnew hq2 hq3 hb3 HBX)
  refine gen_code (fun W => (PM w g m B S1 vr vl ve (.slice sq' sn' sc') (vs ++ [.slice none 0 0]) W ∧ Bx W lb [.int .i64 n, .slice (some ⟨fb, fo, none⟩) (k + 1) c] ∧ Bx W rb r.cs)) HQ.out ?_
  clear HQ HOw q1 c2 z2 h4 K2
  intro w5 kk
  have KK : Hid (PM w g m B S1 vr vl ve (.slice sq' sn' sc') (vs ++ [.slice none 0 0]) w5 ∧ Bx w5 lb [.int .i64 n, .slice (some ⟨fb, fo, none⟩) (k + 1) c] ∧ Bx w5 rb r.cs) := kk
  clear kk
  have y0 := KK.out.2.1.c 0 rfl
  have hlb5 := KK.out.2.1.1
  have e0 := KK.out.2.2.c 0 rfl
  have e1 := KK.out.2.2.c 1 rfl
  have e2 := KK.out.2.2.c 2 rfl
  have e3 := KK.out.2.2.c 3 rfl
  have e4 := KK.out.2.2.c 4 rfl
  have e5 := KK.out.2.2.c 5 rfl
  have e6 := KK.out.2.2.c 6 rfl
  have e7 := KK.out.2.2.c 7 rfl
  have e8 := KK.out.2.2.c 8 rfl
  have e9 := KK.out.2.2.c 9 rfl
  have e10 := KK.out.2.2.c 10 rfl
  have hrb5 := KK.out.2.2.1
  go_wp2_with fail
  refine (padd_any w g m B S1 vr vl ve _ _ _ KK.out.1 n r S.zones (nm, []) (by rw [← hS1]) hN (by simp) (by rw [← hS1]; exact he9)).mono ?_
  rintro e w6 ⟨rfl, ve', vs', hP⟩
  have HP : Hid _ := hP
  clear hP
  go_wp2_with fail
  go_ret
  exact ⟨rfl, _, _, _, HP.out⟩

end Go.Proofs.YtgnfkkcagbbhmaaGreatDoor
