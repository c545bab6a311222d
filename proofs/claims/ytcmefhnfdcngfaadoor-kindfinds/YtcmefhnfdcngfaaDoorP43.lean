import Derived.Test.YtcmefhnfdcngfaaDoorP32
import Derived.Test.YtcmefhnfdcngfaaDoorP42
import Derived.SizedLaws
import Derived.SliceStrings
import Derived.Laws.AppendOwnNone
/- KindFinds: what comes of any operation on any kinds; names; all operations. -/
namespace Go.Proofs.YtcmefhnfdcngfaaDoor
open Go.RowKit
set_option linter.unusedVariables false

theorem infoI3 : (Tryd.prog.info? 3).map (fun i => (i.zero, i.size, i.bytes)) = some (some (.int .i64 0), 1, 8) := by kernel_rfl
/-- so many of these texts are a mark. -/
def qmL (i : Nat) : List Value := List.replicate i (Value.string ⟨#[63]⟩) ++ (stC opsL).drop i
theorem qmL_len {i : Nat} (h : i ≤ 32) : (qmL i).length = 32 := by unfold qmL; simp [stC_len, opsL_len]; omega
theorem qmL_set {i : Nat} (h : i < 32) : (qmL i).set i (.string ⟨#[63]⟩) = qmL (i + 1) := by
  unfold qmL
  have hd : (stC opsL).drop i = (stC opsL)[i]'(by rw [stC_len, opsL_len]; exact h) :: (stC opsL).drop (i + 1) := List.drop_eq_getElem_cons _
  rw [List.set_append, if_neg (by simp), List.length_replicate, Nat.sub_self, hd, List.set_cons_zero, List.replicate_succ', List.append_assoc]
  rfl
theorem qmL_at {i : Nat} {x : ByteArray} (hx : opsL[i]? = some x) : (qmL i)[i]? = some (.string x) := by
  unfold qmL
  rw [List.getElem?_append_right (by simp)]
  simp [stC, hx]
theorem stC_at {L : List ByteArray} {i : Nat} {x : ByteArray} (hx : L[i]? = some x) : (stC L)[i]? = some (.string x) := by unfold stC; simp [hx]
theorem SL.bx {B V : World} {L : List ByteArray} {v : Value} (h : SL B L v V) (h0 : 0 < L.length) : ∃ g cap, v = .slice (some ⟨g, 0, none⟩) L.length cap ∧ L.length ≤ cap ∧ cap ≤ maxLen ∧ B.heap.size ≤ g ∧ Bx V g (stC L) := by
  rcases h.own.2 with ⟨e, z⟩ | ⟨g, cap, cur, e, h1, h2, h3, h4, _⟩
  · omega
  · subst e
    refine ⟨g, cap, rfl, h3, h4, h1, (Array.getElem?_eq_some_iff.1 h2).1, fun i v e => ⟨?_, h.own.frozenAt i⟩⟩
    have hi := (List.getElem?_eq_some_iff.1 e).1
    rw [stC_len] at hi
    rw [h.own.cellAt i (by omega)]
    exact e

set_option maxRecDepth 100000 in
set_option maxHeartbeats 8000000 in
theorem finds_any (op : ByteArray) (L : List Int) (q : Option Addr) (cq : Nat) (k : Int) (name : ByteArray) (hl : L.length ≤ 17592186044416) (hq : L = [] ∧ q = none ∧ cq = 0 ∨ ∃ b o, q = some ⟨b, o, none⟩) (w : World) (hG : G23 w) (ha : IR w (.slice q L.length cq) L) :
    Calls Tryd.prog 3 #[.string op, .slice q L.length cq, .int .i64 k, .string name] w fun e w' => e = .returned (.bool true) ∧ Below w.heap.size w w' := by
  obtain ⟨i0, hi0, iz0, iz1, iz2⟩ := info_parts infoI3
  have HG : Hid (G23 w) := hG
  have HA : Hid (IR w (.slice q L.length cq) L) := ha
  have hcq : L.length ≤ cq ∧ cq ≤ maxLen := by obtain ⟨p, c, e, h1, h2, _⟩ := ha; cases e; exact ⟨h1, h2⟩
  have hcI : (L.length : Int) ≤ 17592186044416 := by omega
  obtain ⟨hc1, hc2⟩ := hcq
  unfold maxLen at hc2
  have hc1I : (L.length : Int) ≤ (cq : Int) := by omega
  have hc2I : (cq : Int) ≤ 9223372036854775807 := by omega
  have hlw : IntKind.i64.wrap (L.length : Int) = (L.length : Int) := by rw [IntKind.wrap_i64]; omega
  clear hG ha
  go_enter Tryd.func3, Tryd.ntmps3
  go_upto_region 2 with fail
  go_cut [9] from 20 (fun t V => ∃ vq vn vc, t = .slice vq vn vc ∧ Hid (CL w L (.slice vq vn vc) V))
  case first =>
    rcases hq with ⟨rfl, rfl, rfl⟩ | ⟨b, o, rfl⟩
    · simp only [List.length_nil] at HA ⊢
      go_wp2_with (at_builtin; refine Hid.out ?_)
      unfold Hid
      refine wpList_append_own_none rfl _ _ 22 rfl w.heap.size 3 i0 1 Tryd.underlying22 hi0 (.slice none 0 0) 0 [] rfl (World.ownsRow_nil _ _ _ _) rfl ?_
      go_wp2_with fail
      go_meet
      case rel => exact ⟨none, 0, 0, rfl, ⟨Below.refl _ _, World.ownsRow_nil _ _ _ _⟩⟩
    · have HC : Hid (∀ j u, (inC L)[j]? = some u → w.cell? ((⟨b, o, none⟩ : Addr).add j) = some u) := fun j u hu => by
        obtain ⟨p, c, e, h1, h2, h3⟩ := HA.out
        cases e
        unfold inC at hu
        rw [List.getElem?_map, Option.map_eq_some_iff] at hu
        obtain ⟨x, hx, rfl⟩ := hu
        obtain ⟨b', o', e1, e2, e3⟩ := h3 j x hx
        cases e1
        rw [Addr.add_mid]; exact e3
      go_wp2_with (at_builtin; refine Hid.out ?_)
      unfold Hid
      refine wpList_append_own _ rfl _ _ 22 rfl w.heap.size 3 i0 (.int .i64 0) 1 8 Tryd.underlying22 hi0 iz0 iz1 iz2 rfl (by decide) _ 0 [] rfl (World.ownsRow_nil _ _ _ _) ⟨b, o, none⟩ L.length cq (inC L) rfl (by unfold inC; simp) HC.out (by intro u hu; unfold inC at hu; obtain ⟨x, _, rfl⟩ := List.mem_map.1 hu; rfl) (by unfold maxLen; omega) (by omega) (Nat.le_refl _) ?_
      intro v' w4 hown' hgrow hnil
      obtain ⟨sq', sn', sc', hv'⟩ := own_form hown'
      subst hv'
      have HF : Hid (CL w L (.slice sq' sn' sc') w4) := ⟨⟨hgrow.os, hgrow.tape, hgrow.output, hgrow.size, fun c hc => hgrow.block c hc (fun h => by have h2 : some c = none := h; cases h2)⟩, by rw [Nat.zero_add, List.nil_append] at hown'; exact hown'⟩
      clear hown' hgrow hnil HC
      go_wp2_with fail
      go_meet
      case rel => exact ⟨_, _, _, rfl, HF⟩
  case rest =>
    obtain ⟨vq, vn, vc, rfl, KC⟩ := hcut
    have HO : Hid (IR wc (.slice vq vn vc) L) := (IX.own KC.out.own (by unfold maxLen; omega)).ir
    have hvn : vn = L.length := by obtain ⟨p, c, e, _⟩ := HO.out; cases e; rfl
    subst hvn
    have hvc : L.length ≤ vc ∧ vc ≤ maxLen := by obtain ⟨p, c, e, h1, h2, _⟩ := HO.out; cases e; exact ⟨h1, h2⟩
    obtain ⟨hv1, hv2⟩ := hvc
    unfold maxLen at hv2
    have hv1I : (L.length : Int) ≤ (vc : Int) := by omega
    have hv2I : (vc : Int) ≤ 9223372036854775807 := by omega
    have HF1 := find_any op L _ wc (HG.out.below KC.out.low).2 HO.out
    have HF1h : Hid _ := HF1
    clear HF1 hq
    obtain ⟨FV, hFV⟩ : ∃ r, finF op L = r := ⟨_, rfl⟩
    rw [hFV] at HF1h
    have HFV : Hid (finF op L = FV) := hFV
    clear hFV
    obtain ⟨a, b1, b2, hab⟩ : ∃ a b1 b2, finV op FV = .tuple #[.int .i64 a, .bool b1, .bool b2] := by cases FV <;> exact ⟨_, _, _, rfl⟩
    rw [hab] at HF1h
    have HAB : Hid _ := hab
    clear hab
    go_wp2_with fail
    refine Calls.mono HF1h.out ?_
    rintro e W1 ⟨rfl, hb⟩
    have B1 : Hid (Below w.heap.size w W1) := KC.out.low.trans (hb.mono KC.out.low.size)
    have O1 : Hid (IR W1 (.slice vq L.length vc) L) := HO.out.below hb
    clear hb HF1h KC HO
    have HR1 := rfind_any op L _ W1 (HA.out.below B1.out)
    rw [HFV.out, HAB.out] at HR1
    have HR1h : Hid _ := HR1
    clear HR1 HFV HAB
    go_wp2_with fail
    refine Calls.mono HR1h.out ?_
    rintro e W2 ⟨rfl, hb⟩
    have B2 : Hid (Below w.heap.size w W2) := B1.out.trans (hb.mono B1.out.size)
    have O2 : Hid (IR W2 (.slice vq L.length vc) L) := O1.out.below hb
    clear hb HR1h B1 O1
    obtain ⟨KN, hKN⟩ : ∃ KN, knN k = KN := ⟨_, rfl⟩
    obtain ⟨KF, hKF⟩ : ∃ KF, kdF name = KF := ⟨_, rfl⟩
    have C1 : Hid (∀ V : World, Below w.heap.size w V → Calls Tryd.prog 8 #[.int .i64 k] V fun e w' => e = .returned (.string KN) ∧ Below V.heap.size V w') := fun V hV => by rw [← hKN]; exact name_any k V (HG.out.below hV).2
    have C2 : Hid (∀ V : World, Calls Tryd.prog 9 #[.int .i64 k] V fun e w' => e = .returned (.string KN) ∧ Below V.heap.size V w') := fun V => by rw [← hKN]; exact rname_any k V
    have C3 : Hid (∀ V : World, Below w.heap.size w V → Calls Tryd.prog 10 #[.string name] V fun e w' => e = .returned (.int .i64 KF) ∧ Below V.heap.size V w') := fun V hV => by rw [← hKF]; exact kind_any name V (HG.out.below hV).2
    have C4 : Hid (∀ V : World, Calls Tryd.prog 11 #[.string name] V fun e w' => e = .returned (.int .i64 KF) ∧ Below V.heap.size V w') := fun V => by rw [← hKF]; exact rkind_any name V
    clear hKN hKF
    go_wp2_with fail
    refine Calls.mono (C1.out _ B2.out) ?_
    rintro e W3 ⟨rfl, hb⟩
    have B3 : Hid (Below w.heap.size w W3) := B2.out.trans (hb.mono B2.out.size)
    have O3 : Hid (IR W3 (.slice vq L.length vc) L) := O2.out.below hb
    clear hb C1 B2 O2
    go_wp2_with fail
    refine Calls.mono (C2.out _) ?_
    rintro e W4 ⟨rfl, hb⟩
    have B4 : Hid (Below w.heap.size w W4) := B3.out.trans (hb.mono B3.out.size)
    have O4 : Hid (IR W4 (.slice vq L.length vc) L) := O3.out.below hb
    clear hb C2 B3 O3
    go_wp2_with fail
    refine Calls.mono (C3.out _ B4.out) ?_
    rintro e W5 ⟨rfl, hb⟩
    have B5 : Hid (Below w.heap.size w W5) := B4.out.trans (hb.mono B4.out.size)
    have O5 : Hid (IR W5 (.slice vq L.length vc) L) := O4.out.below hb
    clear hb C3 B4 O4
    go_wp2_with fail
    refine Calls.mono (C4.out _) ?_
    rintro e W6 ⟨rfl, hb⟩
    have B6 : Hid (Below w.heap.size w W6) := B5.out.trans (hb.mono B5.out.size)
    have O6 : Hid (IR W6 (.slice vq L.length vc) L) := O5.out.below hb
    clear hb C4 B5 O5
    go_wp2_with fail
    go_loopw [16] (fun i V => ∃ (j : Nat), i = .int .i64 (j : Int) ∧ j ≤ L.length ∧ Hid (Below w.heap.size w V) ∧ Hid (IR V (.slice vq L.length vc) L)) (fun i _ => L.length - (intOf i).toNat)
    case atStart => exact ⟨0, rfl, Nat.zero_le _, B6, O6⟩
    case round =>
      obtain ⟨j, rfl, hj, KB, KO⟩ := hrel
      clear B6 O6
      have hj0 : (0 : Int) ≤ (j : Int) := by omega
      by_cases hjl : j < L.length
      · have hjI : (j : Int) < (L.length : Int) := by omega
        have hjw : IntKind.i64.wrap ((j : Int) + 1) = (j : Int) + 1 := by rw [IntKind.wrap_i64]; omega
        obtain ⟨X, hX⟩ : ∃ X, L[j]? = some X := ⟨_, List.getElem?_eq_getElem hjl⟩
        obtain ⟨p1, c1, e1, -, -, r1⟩ := KO.out
        cases e1
        obtain ⟨b, o, rfl, x1, y1⟩ := r1 j X hX
        obtain ⟨p2, c2, e2, -, -, r2⟩ := (HA.out.below KB.out)
        cases e2
        obtain ⟨b', o', rfl, x2, y2⟩ := r2 j X hX
        clear r1 r2 hX
        go_wp2_with fail
        go_quiet (fail)
        refine gen_exH (fun V => Below w.heap.size w V ∧ IR V (.slice (some ⟨b, o, none⟩) L.length vc) L) ⟨bl_drewN KB.out nq, KO.out⟩ ?_
        intro V hV
        have K1 : Hid (Below w.heap.size w V) := hV.1
        have K2 : Hid (IR V (.slice (some ⟨b, o, none⟩) L.length vc) L) := hV.2
        clear hV
        go_wp2
        exact ⟨⟨j + 1, by simp, by omega, K1, K2⟩, by simp [intOf]; omega⟩
      · obtain rfl : j = L.length := by omega
        have hjI : ¬ (L.length : Int) < (L.length : Int) := by omega
        go_wp2_with fail
        refine (ops_any wr).mono ?_
        rintro e V1 ⟨v1, rfl, hS1⟩
        obtain ⟨g1, c1, rfl, k1, k2, k3, k4⟩ := hS1.bx (by rw [opsL_len]; decide)
        rw [opsL_len] at k1 ⊢
        unfold maxLen at k2
        have hb1 : Hid (BS w [(g1, stC opsL)] V1) := ⟨KB.out.trans (hS1.low.mono KB.out.size), fun x hx => by simp at hx; subst hx; exact ⟨by have := KB.out.size; show _ ≤ g1; omega, k4⟩⟩
        have k1I : (32 : Int) ≤ (c1 : Int) := by omega
        have k2I : (c1 : Int) ≤ 9223372036854775807 := by omega
        clear hS1 k3 k4 KB KO
        go_wp2_with fail
        refine (rops_any V1).mono ?_
        rintro e V2 ⟨v2, rfl, hS2⟩
        obtain ⟨g2, c2, rfl, m1, m2, m3, m4⟩ := hS2.bx (by rw [opsL_len]; decide)
        rw [opsL_len] at m1 ⊢
        unfold maxLen at m2
        have hne : g2 ≠ g1 := by have := hb1.out.first.1; omega
        have H2 : Hid (BS w [(g1, qmL 0), (g2, stC opsL)] V2) := by
          have q := hb1.out.below hS2.low
          refine ⟨q.1, fun x hx => ?_⟩
          simp at hx
          rcases hx with rfl | rfl
          · exact ⟨(q.2 (g1, stC opsL) (by simp)).1, q.first⟩
          · exact ⟨by have := hb1.out.1.size; show _ ≤ g2; omega, m4⟩
        have m1I : (32 : Int) ≤ (c2 : Int) := by omega
        have m2I : (c2 : Int) ≤ 9223372036854775807 := by omega
        clear hS2 m3 m4 hb1
        have HNE : Hid (g2 ≠ g1) := hne
        clear hne
        go_wp2_with fail
        go_loopw [19] (fun i V => ∃ (j : Nat), i = .int .i64 (j : Int) ∧ j ≤ 32 ∧ Hid (BS w [(g1, qmL j), (g2, stC opsL)] V)) (fun i _ => 32 - (intOf i).toNat)
        case atStart => exact ⟨0, rfl, Nat.zero_le _, H2⟩
        case round =>
          obtain ⟨j, rfl, hj, KB⟩ := hrel
          clear H2
          have hj0 : (0 : Int) ≤ (j : Int) := by omega
          by_cases hjl : j < 32
          · have hjI : (j : Int) < 32 := by omega
            have hjw : IntKind.i64.wrap ((j : Int) + 1) = (j : Int) + 1 := by rw [IntKind.wrap_i64]; omega
            obtain ⟨X, hX⟩ : ∃ X, opsL[j]? = some X := ⟨_, List.getElem?_eq_getElem (by rw [opsL_len]; exact hjl)⟩
            have y1 := KB.out.first.c j (qmL_at hX)
            have f1 := KB.out.first.f j (qmL_at hX)
            have y2 := (KB.out.at g2 (stC opsL) (by simp)).c j (stC_at hX)
            have z1 := KB.out.first.1
            have z2 := (KB.out.at g2 (stC opsL) (by simp)).1
            clear hX
            go_wp2_with fail
            go_quiet (fail)
            refine gen_exH (fun V => BS w [(g1, qmL j), (g2, stC opsL)] V ∧ V.frozen? ⟨g1, j, none⟩ = false ∧ V.cell? ⟨g1, j, none⟩ = some (.string X) ∧ g1 < V.heap.size) ⟨⟨bl_drewN KB.out.1 nq, KB.out.2⟩, f1, y1, z1⟩ ?_
            intro V hV
            obtain ⟨hV1, f2, y3, z3⟩ := hV
            have K1 : Hid (BS w [(g1, qmL j), (g2, stC opsL)] V) := hV1
            clear hV1 y1 f1 y2 z1 z2 KB
            go_wp2
            exact ⟨⟨j + 1, by simp, by omega, by
              have q := K1.out.set1 j (.string ⟨#[63]⟩) (by rw [qmL_len (by omega)]; exact hjl) (fun x hx => by simp at hx; subst hx; exact HNE.out)
              rw [qmL_set hjl] at q
              exact q⟩, by simp [intOf]; omega⟩
          · obtain rfl : j = 32 := by omega
            go_wp2_with fail
            refine (ops_any wr).mono ?_
            rintro e V3 ⟨v3, rfl, hS3⟩
            obtain ⟨g3, c3, rfl, n1, n2, n3, n4⟩ := hS3.bx (by rw [opsL_len]; decide)
            rw [opsL_len] at n1 ⊢
            unfold maxLen at n2
            have H3 : Hid (BS w [(g3, stC opsL), (g2, stC opsL)] V3) := by
              have q := KB.out.below hS3.low
              refine ⟨q.1, fun x hx => ?_⟩
              simp at hx
              rcases hx with rfl | rfl
              · exact ⟨by have := KB.out.1.size; show _ ≤ g3; omega, n4⟩
              · exact q.2 (g2, stC opsL) (by simp)
            have n1I : (32 : Int) ≤ (c3 : Int) := by omega
            have n2I : (c3 : Int) ≤ 9223372036854775807 := by omega
            have HO0 : Hid ((stC opsL)[0]? = some (.string ⟨#[43]⟩)) := stC_at (show opsL[0]? = some ⟨#[43]⟩ by decide +kernel)
            clear hS3 n3 n4 KB HNE
            go_upto_region 23 with fail
            refine wp_region_held_drew (S := BS w [(g3, stC opsL), (g2, stC opsL)]) (by kernel_rfl) (BS.drew H3.out) (fun hHeld => ?_)
            refine wpAnyH_take (i := 0) (v := ?_) (oi := { dst := some 105, op := _, type := _, pos := _, after := _, guard := none }) rfl (by kernel_rfl) (by kernel_rfl) (by kernel_rfl) (fun _ _ _ h => h) (Or.inl ⟨by kernel_rfl, ?_⟩) (by assumption) ?_
            case refine_2 => (intro w9 hSw; clear hSw; go_simp; try with_reducible rfl)
            simp only [Act.put, List.setIfInBounds_toArray, List.set_cons_zero, List.set_cons_succ]
            refine wpAnyH_take (i := 1) (v := ?_) (oi := { dst := some 106, op := _, type := _, pos := _, after := _, guard := none }) rfl (by kernel_rfl) (by kernel_rfl) (by kernel_rfl) (fun _ _ _ h => h) (Or.inl ⟨by kernel_rfl, ?_⟩) (by assumption) ?_
            case refine_2 => (intro w9 hSw; clear hSw; go_simp; try with_reducible rfl)
            simp only [Act.put, List.setIfInBounds_toArray, List.set_cons_zero, List.set_cons_succ]
            refine wpAnyH_take (i := 2) (v := ?_) (oi := { dst := some 107, op := _, type := _, pos := _, after := _, guard := none }) rfl (by kernel_rfl) (by kernel_rfl) (by kernel_rfl) (fun _ _ _ h => h) (Or.inl ⟨by kernel_rfl, ?_⟩) (by assumption) ?_
            case refine_2 => (intro w9 hSw; have m1 := hSw.first.c 0 HO0.out; have m2 := (hSw.at g2 (stC opsL) (by simp)).c 0 HO0.out; have mh1 := hSw.first.1; have mh2 := (hSw.at g2 (stC opsL) (by simp)).1; clear hSw; go_simp; try with_reducible rfl)
            simp only [Act.put, List.setIfInBounds_toArray, List.set_cons_zero, List.set_cons_succ]
            refine wpAnyH_take (i := 3) (v := ?_) (oi := { dst := some 108, op := _, type := _, pos := _, after := _, guard := none }) rfl (by kernel_rfl) (by kernel_rfl) (by kernel_rfl) (fun _ _ _ h => h) (Or.inl ⟨by kernel_rfl, ?_⟩) (by assumption) ?_
            case refine_2 => (intro w9 hSw; clear hSw; go_simp; try with_reducible rfl)
            simp only [Act.put, List.setIfInBounds_toArray, List.set_cons_zero, List.set_cons_succ]
            refine wpAnyH_take (i := 4) (v := ?_) (oi := { dst := some 109, op := _, type := _, pos := _, after := _, guard := none }) rfl (by kernel_rfl) (by kernel_rfl) (by kernel_rfl) (fun _ _ _ h => h) (Or.inl ⟨by kernel_rfl, ?_⟩) (by assumption) ?_
            case refine_2 => (intro w9 hSw; clear hSw; go_simp; try with_reducible rfl)
            simp only [Act.put, List.setIfInBounds_toArray, List.set_cons_zero, List.set_cons_succ]
            refine wpAnyH_take (i := 5) (v := ?_) (oi := { dst := some 110, op := _, type := _, pos := _, after := _, guard := none }) rfl (by kernel_rfl) (by kernel_rfl) (by kernel_rfl) (fun _ _ _ h => h) (Or.inl ⟨by kernel_rfl, ?_⟩) (by assumption) ?_
            case refine_2 => (intro w9 hSw; have m1 := hSw.first.c 0 HO0.out; have m2 := (hSw.at g2 (stC opsL) (by simp)).c 0 HO0.out; have mh1 := hSw.first.1; have mh2 := (hSw.at g2 (stC opsL) (by simp)).1; clear hSw; go_simp; try with_reducible rfl)
            simp only [Act.put, List.setIfInBounds_toArray, List.set_cons_zero, List.set_cons_succ]
            refine wpAnyH_take (i := 6) (v := ?_) (oi := { dst := some 111, op := _, type := _, pos := _, after := _, guard := none }) rfl (by kernel_rfl) (by kernel_rfl) (by kernel_rfl) (fun _ _ _ h => h) (Or.inl ⟨by kernel_rfl, ?_⟩) (by assumption) ?_
            case refine_2 => (intro w9 hSw; clear hSw; go_simp; try with_reducible rfl)
            simp only [Act.put, List.setIfInBounds_toArray, List.set_cons_zero, List.set_cons_succ]
            refine wpAnyH_take (i := 7) (v := ?_) (oi := { dst := some 112, op := _, type := _, pos := _, after := _, guard := none }) rfl (by kernel_rfl) (by kernel_rfl) (by kernel_rfl) (fun _ _ _ h => h) (Or.inl ⟨by kernel_rfl, ?_⟩) (by assumption) ?_
            case refine_2 => (intro w9 hSw; clear hSw; go_simp; try with_reducible rfl)
            simp only [Act.put, List.setIfInBounds_toArray, List.set_cons_zero, List.set_cons_succ]
            refine wpAnyH_ready (rs := [8]) (by kernel_rfl) (by simp) (AllReadyH.cons (o := { dst := some 113, op := _, type := _, pos := _, after := _, guard := some (7, true) }) rfl (fun K hK => ?_) AllReadyH.nil)
            go_simp
            refine (known23_any _ (HG.out.below hHeld.1)).mono ?_
            rintro e v1 ⟨rfl, hb1⟩
            refine hK.out _ _ (hHeld.below hb1) (fun hHeld => ?_)
            clear hK K hb1
            refine wpAnyH_take (i := 9) (v := ?_) (oi := { dst := some 114, op := _, type := _, pos := _, after := _, guard := none }) rfl (by kernel_rfl) (by kernel_rfl) (by kernel_rfl) (fun _ _ _ h => h) (Or.inl ⟨by kernel_rfl, ?_⟩) (by assumption) ?_
            case refine_2 => (intro w9 hSw; clear hSw; go_simp; try with_reducible rfl)
            simp only [Act.put, List.setIfInBounds_toArray, List.set_cons_zero, List.set_cons_succ]
            refine wpAnyH_take (i := 10) (v := ?_) (oi := { dst := some 8, op := _, type := _, pos := _, after := _, guard := none }) rfl (by kernel_rfl) (by kernel_rfl) (by kernel_rfl) (fun _ _ _ h => h) (Or.inl ⟨by kernel_rfl, ?_⟩) (by assumption) ?_
            case refine_2 => (intro w9 hSw; clear hSw; go_simp; try with_reducible rfl)
            simp only [Act.put, List.setIfInBounds_toArray, List.set_cons_zero, List.set_cons_succ]
            refine wpAnyH_done (by kernel_rfl) ?_ _
            have HT5 : Hid (BS w [(g3, stC opsL), (g2, stC opsL)] _) := hHeld
            clear hHeld
            go_wp2
            go_ret
            exact ⟨rfl, HT5.out.1⟩

end Go.Proofs.YtcmefhnfdcngfaaDoor
