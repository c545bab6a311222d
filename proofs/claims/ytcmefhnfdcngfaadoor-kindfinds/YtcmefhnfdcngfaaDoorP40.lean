import Derived.Test.YtcmefhnfdcngfaaDoorP29
import Derived.Test.YtcmefhnfdcngfaaDoorP39
/- kind.check: what comes of any node. -/
namespace Go.Proofs.YtcmefhnfdcngfaaDoor
open Go.RowKit
set_option linter.unusedVariables false

theorem ta_wr (r : Int) (w : World) : (Instr.typeAssert (.iface 84 (.int .i64 r)) 20 84 true).run Tryd.prog w = .ok (.tuple #[.int .i64 r, .bool true]) w := by kernel_rfl
theorem ta_wo (s : ByteArray) (w : World) : (Instr.typeAssert (.iface 88 (.string s)) 20 84 true).run Tryd.prog w = .ok (.tuple #[.int .i64 0, .bool false]) w := by kernel_rfl
theorem ta_wn (w : World) : (Instr.typeAssert .nilIface 20 84 true).run Tryd.prog w = .ok (.tuple #[.int .i64 0, .bool false]) w := by kernel_rfl
theorem ta_oo (s : ByteArray) (w : World) : (Instr.typeAssert (.iface 88 (.string s)) 20 88 true).run Tryd.prog w = .ok (.tuple #[.string s, .bool true]) w := by kernel_rfl
theorem ta_on (w : World) : (Instr.typeAssert .nilIface 20 88 true).run Tryd.prog w = .ok (.tuple #[.string ⟨#[]⟩, .bool false]) w := by kernel_rfl
/-- what partOf tells. -/
def ptV (k : Int) (t : ByteArray) : Value :=
  match wrt k with
  | some r => .iface 84 (.int .i64 r)
  | none => match opOf k t with
    | some s => .iface 88 (.string s)
    | none => .nilIface

set_option maxRecDepth 100000 in
set_option maxHeartbeats 4000000 in
theorem part_any (k : Int) (t : ByteArray) (ht : t.size ≤ 100000) (sv : Option Addr) (sn sw : Nat) (a : Int) (w : World) :
    Calls Tryd.prog 35 #[.agg #[.int .i64 k, .string t, .slice sv sn sw, .int .i64 a]] w fun e w' => e = .returned (ptV k t) ∧ Below w.heap.size w w' := by
  by_cases h1 : k = 1
  · have e : ptV k t = .iface 84 (.int .i64 2) := by unfold ptV wrt opOf; simp [h1]
    rw [e]; clear e
    subst h1
    go_enter Tryd.func35, Tryd.ntmps35
    go_wp2
    go_ret
    exact ⟨rfl, (Below.refl _ w).alloc (Nat.le_refl _) _⟩
  by_cases h2 : k = 2
  · have e : ptV k t = .iface 84 (.int .i64 3) := by unfold ptV wrt opOf; simp [h2]
    rw [e]; clear e
    subst h2
    go_enter Tryd.func35, Tryd.ntmps35
    go_wp2
    go_ret
    exact ⟨rfl, (Below.refl _ w).alloc (Nat.le_refl _) _⟩
  by_cases h3 : k = 3
  · have e : ptV k t = .iface 84 (.int .i64 4) := by unfold ptV wrt opOf; simp [h3]
    rw [e]; clear e
    subst h3
    go_enter Tryd.func35, Tryd.ntmps35
    go_wp2
    go_ret
    exact ⟨rfl, (Below.refl _ w).alloc (Nat.le_refl _) _⟩
  by_cases h4 : k = 4
  · have e : ptV k t = .iface 84 (.int .i64 1) := by unfold ptV wrt opOf; simp [h4]
    rw [e]; clear e
    subst h4
    go_enter Tryd.func35, Tryd.ntmps35
    go_wp2
    go_ret
    exact ⟨rfl, (Below.refl _ w).alloc (Nat.le_refl _) _⟩
  by_cases h6 : k = 6
  · have e : ptV k t = .iface 88 (.string ⟨#[110, 101, 103]⟩) := by unfold ptV wrt opOf; simp [h6]
    rw [e]; clear e
    subst h6
    go_enter Tryd.func35, Tryd.ntmps35
    go_wp2
    go_ret
    exact ⟨rfl, (Below.refl _ w).alloc (Nat.le_refl _) _⟩
  by_cases h7 : k = 7
  · have e : ptV k t = .iface 88 (.string ⟨#[110, 111, 116]⟩) := by unfold ptV wrt opOf; simp [h7]
    rw [e]; clear e
    subst h7
    go_enter Tryd.func35, Tryd.ntmps35
    go_wp2
    go_ret
    exact ⟨rfl, (Below.refl _ w).alloc (Nat.le_refl _) _⟩
  by_cases h8 : k = 8
  · have e : ptV k t = .iface 88 (.string t) := by unfold ptV wrt opOf; simp [h8]
    rw [e]; clear e
    subst h8
    go_enter Tryd.func35, Tryd.ntmps35
    go_wp2
    go_ret
    exact ⟨rfl, (Below.refl _ w).alloc (Nat.le_refl _) _⟩
  by_cases h9 : k = 9
  · have e : ptV k t = .iface 88 (.string t) := by unfold ptV wrt opOf; simp [h9]
    rw [e]; clear e
    subst h9
    go_enter Tryd.func35, Tryd.ntmps35
    go_wp2
    go_ret
    exact ⟨rfl, (Below.refl _ w).alloc (Nat.le_refl _) _⟩
  by_cases h5 : k = 5
  · have e : ptV k t = .iface 88 (.string ((⟨#[58, 58]⟩ : ByteArray) ++ t)) := by unfold ptV wrt opOf; simp [h5]
    rw [e]; clear e
    subst h5
    go_enter Tryd.func35, Tryd.ntmps35
    go_wp2
    go_ret
    exact ⟨rfl, (Below.refl _ w).alloc (Nat.le_refl _) _⟩
  by_cases h10 : k = 10
  · have e : ptV k t = .iface 88 (.string ((⟨#[58, 58]⟩ : ByteArray) ++ t)) := by unfold ptV wrt opOf; simp [h10]
    rw [e]; clear e
    subst h10
    go_enter Tryd.func35, Tryd.ntmps35
    go_wp2
    go_ret
    exact ⟨rfl, (Below.refl _ w).alloc (Nat.le_refl _) _⟩
  have g1 : (k == 1) = false := by simpa using h1
  have g2 : (k == 2) = false := by simpa using h2
  have g3 : (k == 3) = false := by simpa using h3
  have g4 : (k == 4) = false := by simpa using h4
  have g6 : (k == 6) = false := by simpa using h6
  have g7 : (k == 7) = false := by simpa using h7
  have g8 : (k == 8) = false := by simpa using h8
  have g9 : (k == 9) = false := by simpa using h9
  have g5 : (k == 5) = false := by simpa using h5
  have g10 : (k == 10) = false := by simpa using h10
  have e : ptV k t = .nilIface := by unfold ptV wrt opOf; simp [h1, h2, h3, h4, h6, h7, h8, h9, h5, h10]
  rw [e]; clear e
  go_enter Tryd.func35, Tryd.ntmps35
  go_wp2
  go_ret
  exact ⟨rfl, (Below.refl _ w).alloc (Nat.le_refl _) _⟩

/-- what check tells. -/
def chV : Sum Int (Int × Bool) → Value
  | .inl a => .tuple #[.agg #[.int .i64 0, .bool false], .int .i64 a, .bool false]
  | .inr x => .tuple #[.agg #[.int .i64 x.1, .bool x.2], .int .i64 0, .bool true]
def CkOk (n : Nd) : Prop := tzN n = true → cnN n ≤ 100000 → ∀ (X : Nat → Prop) (w : World) (c0 c1 c2 c3 : Value), Kn w → NdAt X w n [c0, c1, c2, c3] →
    Calls Tryd.prog 28 #[.agg #[c0, c1, c2, c3]] w fun e w' => e = .returned (chV (chN n)) ∧ Below w.heap.size w w'
/-- what checkKids tells. -/
def KdOut (w' : World) (e : Ending) : Sum Int (List Int) → Prop
  | .inl a => e = .returned (.tuple #[.slice none 0 0, .int .i64 a, .bool false])
  | .inr l => ∃ v, e = .returned (.tuple #[v, .int .i64 0, .bool true]) ∧ IR w' v l
/-- kids so far. -/
structure CL (w : World) (acc : List Int) (v : Value) (V : World) : Prop where
  low : Below w.heap.size w V
  own : V.ownsRow w.heap.size 3 1 v acc.length (inC acc)
theorem CL.below {w : World} {acc : List Int} {v : Value} {V W : World} (h : CL w acc v V) (hb : Below V.heap.size V W) : CL w acc v W :=
  ⟨h.low.trans (hb.mono h.low.size), ownsRow_keep h.own (fun c _ hl => hb.block c hl)⟩
theorem CL.more {w : World} {acc : List Int} {v v' : Value} {V V' : World} {k : Int} (h : CL w acc v V) (hgr : V.grownBy V' v.ownBlock) (hown : V'.ownsRow w.heap.size 3 1 v' (acc.length + 1) (inC acc ++ [.int .i64 k])) : CL w (acc ++ [k]) v' V' := by
  have hr : ∀ c, v.ownBlock = some c → w.heap.size ≤ c ∧ c < V.heap.size := fun c hc => ob_lt h.own hc
  refine ⟨⟨hgr.os.trans h.low.os, hgr.tape.trans h.low.tape, hgr.output.trans h.low.output, Nat.le_trans h.low.size hgr.size, fun c hc => (hgr.block c (by have := h.low.size; omega) (fun e => by have := hr c e.symm; omega)).trans (h.low.block c hc)⟩, ?_⟩
  rw [List.length_append]; unfold inC at hown ⊢; rw [List.map_append]; exact hown
theorem NdAt.pl {X : Nat → Prop} {w : World} {n : Nd} {c0 c1 c2 c3 : Value} (h : NdAt X w n [c0, c1, c2, c3]) : c3 = .int .i64 n.pl := by
  cases n with
  | mk k t ks a => exact h.kids.2.2.1

set_option maxRecDepth 100000 in
set_option maxHeartbeats 4000000 in
theorem ckids_any (ks : List Nd) (hz : ∀ n ∈ ks, tzN n = true) (hn : ∀ n ∈ ks, cnN n ≤ 100000) (hlen : ks.length ≤ 100000) (H : ∀ n ∈ ks, CkOk n) (X : Nat → Prop) (w : World) (sv : Option Addr) (sw : Nat) (hkn : Kn w)
    (HG : Hid (∀ j n, ks[j]? = some n → ∃ b, sv = some ⟨b, 0, none⟩ ∧ ks.length ≤ sw ∧ X b ∧ b < w.heap.size ∧ ∃ d0 d1 d2 d3, w.cell? ⟨b, j * 4, none⟩ = some d0 ∧ w.cell? ⟨b, j * 4 + 1, none⟩ = some d1 ∧ w.cell? ⟨b, j * 4 + 2, none⟩ = some d2 ∧ w.cell? ⟨b, j * 4 + 3, none⟩ = some d3 ∧ NdAt X w n [d0, d1, d2, d3])) :
    Calls Tryd.prog 36 #[.slice sv ks.length sw] w fun e w' => Below w.heap.size w w' ∧ KdOut w' e (chL ks) := by
  have HK : Hid (Kn w) := hkn
  have HH : Hid (∀ n ∈ ks, CkOk n) := H
  have HZ : Hid (∀ n ∈ ks, tzN n = true) := hz
  have HN : Hid (∀ n ∈ ks, cnN n ≤ 100000) := hn
  obtain ⟨i0, hi0, iz0, iz1, iz2⟩ := info_parts infoI
  have hlI : (ks.length : Int) ≤ 100000 := by omega
  clear hkn H hz hn
  go_enter Tryd.func36, Tryd.ntmps36
  go_wp2_with fail
  go_loopw [5, 13] (fun v i W => ∃ (j : Nat) (vq : Option Addr) (vn vc : Nat) (acc : List Int), v = .slice vq vn vc ∧ i = .int .i64 (j : Int) ∧ j ≤ ks.length ∧ Hid (CL w acc (.slice vq vn vc) W) ∧ Hid (acc.length = j) ∧ Hid (chL ks = ahL acc (chL (ks.drop j)))) (fun _ i _ => ks.length - (intOf i).toNat)
  case atStart => exact ⟨0, none, 0, 0, [], rfl, rfl, Nat.zero_le _, ⟨Below.refl _ _, World.ownsRow_nil _ _ _ _⟩, rfl, by show _ = _; rw [ahL_nil]; rfl⟩
  case round =>
    obtain ⟨j, vq, vn, vc, acc, rfl, rfl, hj, KC, HL, HE⟩ := hrel
    have hj0 : (0 : Int) ≤ (j : Int) := by omega
    have hsz := KC.out.low.size
    by_cases hjl : j < ks.length
    · have hjI : (j : Int) < (ks.length : Int) := by omega
      have hjw : IntKind.i64.wrap ((j : Int) + 1) = (j : Int) + 1 := by rw [IntKind.wrap_i64]; omega
      obtain ⟨b, rfl, hsw, -, hb, d0, d1, d2, d3, y0, y1, y2, y3, hnd⟩ := HG.out j _ (List.getElem?_eq_getElem hjl)
      have v0 := (KC.out.low.cell (p := ⟨b, j * 4, none⟩) hb).trans y0
      have v1 := (KC.out.low.cell (p := ⟨b, j * 4 + 1, none⟩) hb).trans y1
      have v2 := (KC.out.low.cell (p := ⟨b, j * 4 + 2, none⟩) hb).trans y2
      have v3 := (KC.out.low.cell (p := ⟨b, j * 4 + 3, none⟩) hb).trans y3
      have hbw : b < wr.heap.size := by omega
      obtain ⟨k2, t2, sq2, sn2, sc2, a2, rfl, rfl, rfl, rfl⟩ := hnd.form
      have hpl := hnd.pl
      simp only [Value.int.injEq, true_and] at hpl
      have HPL : Hid (a2 = (ks[j]).pl) := hpl
      clear hpl
      have hdr : ks.drop j = ks[j] :: ks.drop (j + 1) := List.drop_eq_getElem_cons hjl
      have hE := HE.out
      rw [hdr] at hE
      have HEq : Hid (chL ks = ahL acc (chL (ks[j] :: ks.drop (j + 1)))) := hE
      clear hE
      have hnd1 := hnd.below KC.out.low
      have HC : Hid (∀ V : World, Below wr.heap.size wr V → Calls Tryd.prog 28 #[.agg #[.int .i64 k2, .string t2, .slice sq2 sn2 sc2, .int .i64 a2]] V fun e w' => e = .returned (chV (chN ks[j])) ∧ Below V.heap.size V w') := fun V hV => HH.out _ (List.getElem_mem hjl) (HZ.out _ (List.getElem_mem hjl)) (HN.out _ (List.getElem_mem hjl)) X V _ _ _ _ ((HK.out.below KC.out.low).below hV) (hnd1.below hV)
      have KA : Hid (CL w acc (.slice vq vn vc) (wr.alloc (.cells #[.int .i64 k2, .string t2, .slice sq2 sn2 sc2, .int .i64 a2] 52))) := KC.out.below ((Below.refl _ wr).alloc (Nat.le_refl _) _)
      have BA : Hid (Bx (wr.alloc (.cells #[.int .i64 k2, .string t2, .slice sq2 sn2 sc2, .int .i64 a2] 52)) wr.heap.size [.int .i64 k2, .string t2, .slice sq2 sn2 sc2, .int .i64 a2]) := Bx.new wr [.int .i64 k2, .string t2, .slice sq2 sn2 sc2, .int .i64 a2] 52
      obtain ⟨C, hC⟩ : ∃ C, chN ks[j] = C := ⟨_, rfl⟩
      rw [hC] at HC
      have HCh : Hid (chN ks[j] = C) := hC
      clear hC
      clear y0 y1 y2 y3 hnd hnd1 HE KC hdr
      go_wp2_with fail
      refine (HC.out _ ((Below.refl _ wr).alloc (Nat.le_refl _) _)).mono ?_
      rintro e V ⟨rfl, hk⟩
      have KV : Hid (CL w acc (.slice vq vn vc) V) := KA.out.below hk
      have BV : Hid (Bx V wr.heap.size [.int .i64 k2, .string t2, .slice sq2 sn2 sc2, .int .i64 a2]) := BA.out.below hk
      clear hk KA BA HC v0 v1 v2 v3 HH HZ HN HG
      rcases C with A | ⟨r, l⟩
      · have HE2 : Hid (chL ks = .inl A) := HEq.out.trans (ahL_bad HCh.out)
        have HB : Hid (Below w.heap.size w (V.alloc (.cells #[.int .i64 0, .bool false] 65))) := KV.out.low.alloc KV.out.low.size _
        clear HEq HCh KV BV
        simp only [chV]
        go_wp2
        exact bodyPost_ret (v := .tuple #[.slice none 0 0, .int .i64 A, .bool false]) (by simp [results, Tryd.results36, go_sem]) rfl ⟨HB.out, by rw [HE2.out]; rfl⟩
      · cases l with
        | true =>
          have HE2 : Hid (chL ks = .inl a2) := by have := HEq.out.trans (ahL_list HCh.out); rw [← HPL.out] at this; exact this
          have x3 := BV.out.c 3 rfl
          have hlx := BV.out.1
          have HB : Hid (Below w.heap.size w (V.alloc (.cells #[.int .i64 r, .bool true] 65))) := KV.out.low.alloc KV.out.low.size _
          clear HEq HCh KV BV
          simp only [chV]
          go_wp2_with fail
          go_quiet (fail)
          go_wp2
          exact bodyPost_ret (v := .tuple #[.slice none 0 0, .int .i64 a2, .bool false]) (by simp [results, Tryd.results36, go_sem]) rfl ⟨bl_drewN HB.out _, by rw [HE2.out]; rfl⟩
        | false =>
          have HE2 : Hid (chL ks = ahL (acc ++ [r]) (chL (ks.drop (j + 1)))) := HEq.out.trans (ahL_one HCh.out)
          have HV2 : Hid (CL w acc (.slice vq vn vc) ((V.alloc (.cells #[.int .i64 r, .bool false] 65)).alloc (.cells #[.int .i64 r] 3))) := (KV.out.below ((Below.refl _ V).alloc (Nat.le_refl _) _)).below ((Below.refl _ _).alloc (Nat.le_refl _) _)
          have HX : Hid (Bx ((V.alloc (.cells #[.int .i64 r, .bool false] 65)).alloc (.cells #[.int .i64 r] 3)) (V.heap.size + 1) [.int .i64 r]) := by
            have q := Bx.new (V.alloc (.cells #[.int .i64 r, .bool false] 65)) [.int .i64 r] 3
            rw [show (V.alloc (.cells #[.int .i64 r, .bool false] 65)).heap.size = V.heap.size + 1 by simp] at q
            exact q
          clear HEq HCh KV BV
          simp only [chV]
          go_wp2_with (at_builtin; refine Hid.out ?_)
          unfold Hid
          refine wpl_append_new rfl _ _ 22 rfl w.heap.size 3 i0 (.int .i64 0) 1 8 Tryd.underlying22 hi0 iz0 iz1 iz2 rfl (by decide) _ acc.length (inC acc) rfl HV2.out.own ⟨V.heap.size + 1, 0, none⟩ 1 [.int .i64 r] rfl rfl (fun j u hj => by rw [show (⟨V.heap.size + 1, 0, none⟩ : Addr).add j = ⟨V.heap.size + 1, j, none⟩ from by rw [Addr.add_lit]; simp]; exact (HX.out.2 j u hj).1) (by intro u hu; simp at hu; subst hu; rfl) (by rw [HL.out]; unfold maxLen; omega) (by rw [HL.out]; omega) HV2.out.low.size ?_
          intro v' w4 hown' hgrow hnew
          obtain ⟨sq', sn', sc', hv'⟩ := own_form hown'
          subst hv'
          have HW : Hid (CL w (acc ++ [r]) (.slice sq' sn' sc') w4) := HV2.out.more hgrow hown'
          have HL2 : Hid ((acc ++ [r]).length = j + 1) := by show _ = _; rw [List.length_append, HL.out]; rfl
          clear hown' hgrow hnew HV2 HX HL
          go_wp2
          exact ⟨⟨j + 1, sq', sn', sc', acc ++ [r], rfl, by simp, by omega, HW, HL2, HE2⟩, by simp [intOf]; omega⟩
    · obtain rfl : j = ks.length := by omega
      have hjI : ¬ (ks.length : Int) < (ks.length : Int) := by omega
      have HE2 : Hid (chL ks = .inr acc) := by
        have h1 := HE.out
        rw [List.drop_length, show chL [] = .inr [] by rw [chL]] at h1
        rw [h1]; show Sum.inr (acc ++ []) = _; rw [List.append_nil]
      have HI : Hid (IR wr (.slice vq vn vc) acc) := by
        have := HL.out
        exact (IX.own KC.out.own (by unfold maxLen; omega)).ir
      clear HE HG
      go_wp2
      exact bodyPost_ret (v := .tuple #[.slice vq vn vc, .int .i64 0, .bool true]) (by simp [results, Tryd.results36, go_sem]) rfl ⟨KC.out.low, by rw [HE2.out]; exact ⟨_, rfl, HI.out⟩⟩

end Go.Proofs.YtcmefhnfdcngfaaDoor
