import Derived.Test.YtcmefhnfdcngfaaDoorP31
/- All operations, the program's and the reference's: rows of texts of their own. -/
namespace Go.Proofs.YtcmefhnfdcngfaaDoor
open Go.RowKit
set_option linter.unusedVariables false

theorem infoS : (Tryd.prog.info? 9).map (fun i => (i.zero, i.size, i.bytes)) = some (some (.string ⟨#[]⟩), 1, 16) := by kernel_rfl
def stC (L : List ByteArray) : List Value := L.map Value.string
theorem stC_len (L : List ByteArray) : (stC L).length = L.length := by simp [stC]
/-- a row of texts that grows, in a world that keeps what lay in B. -/
structure SL (B : World) (L : List ByteArray) (v : Value) (V : World) : Prop where
  low : Below B.heap.size B V
  own : V.ownsRow B.heap.size 9 1 v L.length (stC L)
theorem SL.below {B : World} {L : List ByteArray} {v : Value} {V W : World} (h : SL B L v V) (hb : Below V.heap.size V W) : SL B L v W :=
  ⟨h.low.trans (hb.mono h.low.size), ownsRow_keep h.own (fun c _ hl => hb.block c hl)⟩
theorem SL.many {B : World} {L M : List ByteArray} {v v' : Value} {V V' : World} (h : SL B L v V) (hgr : V.grownBy V' v.ownBlock) (hown : V'.ownsRow B.heap.size 9 1 v' (L.length + M.length) (stC L ++ stC M)) : SL B (L ++ M) v' V' := by
  have hr : ∀ c, v.ownBlock = some c → B.heap.size ≤ c ∧ c < V.heap.size := fun c hc => ob_lt h.own hc
  refine ⟨⟨hgr.os.trans h.low.os, hgr.tape.trans h.low.tape, hgr.output.trans h.low.output, Nat.le_trans h.low.size hgr.size, fun c hc => (hgr.block c (by have := h.low.size; omega) (fun e => by have := hr c e.symm; omega)).trans (h.low.block c hc)⟩, ?_⟩
  rw [List.length_append]; unfold stC at hown ⊢; rw [List.map_append]; exact hown
theorem SL.start (w : World) : SL w [] (.slice none 0 0) w := ⟨Below.refl _ _, World.ownsRow_nil _ _ _ _⟩
theorem sl_drewN {B : World} {L : List ByteArray} {v : Value} {V : World} (h : SL B L v V) (n : Nat) : SL B L v (V.drewN n) := ⟨bl_drewN h.low n, h.own⟩
theorem bxa {w : World} {b : Nat} {cs : List Value} (h : Bx w b cs) : ∀ j u, cs[j]? = some u → w.cell? ((⟨b, 0, none⟩ : Addr).add j) = some u := fun j u hj => by
  rw [show (⟨b, 0, none⟩ : Addr).add j = ⟨b, j, none⟩ from by rw [Addr.add_lit]; simp]; exact (h.2 j u hj).1
theorem stC_one (L : List ByteArray) : ∀ u ∈ stC L, u.oneCell' = true := fun u hu => by
  unfold stC at hu
  obtain ⟨x, _, rfl⟩ := List.mem_map.1 hu
  rfl
/-- all operations. -/
def opsL : List ByteArray := tbl.map (fun x => x.1)
theorem opsL_len : opsL.length = 32 := by decide +kernel
theorem opsL_at {j : Nat} {x : ByteArray × ByteArray} (hx : tbl[j]? = some x) : opsL.take (j + 1) = opsL.take j ++ [x.1] := by
  rw [List.take_add_one]; unfold opsL; rw [List.getElem?_map, hx]; rfl
theorem opsL_take {j : Nat} (hj : j ≤ 32) : (opsL.take j).length = j := by rw [List.length_take, opsL_len]; omega

set_option maxRecDepth 100000 in
set_option maxHeartbeats 4000000 in
theorem ops_any (w : World) :
    Calls Tryd.prog 12 #[] w fun e w' => ∃ v, e = .returned v ∧ SL w opsL v w' := by
  obtain ⟨i0, hi0, iz0, iz1, iz2⟩ := info_parts infoS
  go_enter Tryd.func12, Tryd.ntmps12
  go_wp2_with fail
  refine (table_any w).mono ?_
  rintro e W ⟨rfl, hW⟩
  have BT : Hid (BS w [(w.heap.size, tbC tbl)] W) := by rw [hW]; exact (BS.start w).new (tbC tbl) 43 rfl
  clear hW
  go_wp2_with fail
  go_loopw [1, 6] (fun v i V => ∃ (j : Nat) (vq : Option Addr) (vn vc : Nat), v = .slice vq vn vc ∧ i = .int .i64 (j : Int) ∧ j ≤ 32 ∧ Hid (SL W (opsL.take j) (.slice vq vn vc) V)) (fun _ i _ => 32 - (intOf i).toNat)
  case atStart => exact ⟨0, none, 0, 0, rfl, rfl, by omega, SL.start W⟩
  case round =>
    obtain ⟨j, vq, vn, vc, rfl, rfl, hj, KS⟩ := hrel
    have hj0 : (0 : Int) ≤ (j : Int) := by omega
    by_cases hj32 : j < 32
    · have hjI : (j : Int) < 32 := by omega
      have hjw : IntKind.i64.wrap ((j : Int) + 1) = (j : Int) + 1 := by rw [IntKind.wrap_i64]; omega
      obtain ⟨x, hx⟩ : ∃ x, tbl[j]? = some x := ⟨_, List.getElem?_eq_getElem (show j < tbl.length by rw [tbl_len]; exact hj32)⟩
      obtain ⟨q1, q2⟩ := tbC_at tbl j x hx
      have hbw := BT.out.first.1
      have v0 := (KS.out.low.cell (p := ⟨w.heap.size, j * 2, none⟩) hbw).trans (BT.out.first.c (j * 2) q1)
      have v1 := (KS.out.low.cell (p := ⟨w.heap.size, j * 2 + 1, none⟩) hbw).trans (BT.out.first.c (j * 2 + 1) q2)
      have hlt : w.heap.size < wr.heap.size := by have := KS.out.low.size; omega
      have hta := opsL_at hx
      obtain ⟨O, T⟩ := x
      simp only at v0 v1 hta
      have HTa : Hid _ := hta
      have hln := opsL_take (show j ≤ 32 by omega)
      have HLn : Hid _ := hln
      clear q1 q2 hx hbw hta hln
      have KX : Hid (SL W (opsL.take j) (.slice vq vn vc) ((wr.alloc (.cells #[.string O, .string T] 43)).alloc (.cells #[.string O] 9))) := (KS.out.below ((Below.refl _ wr).alloc (Nat.le_refl _) _)).below ((Below.refl _ _).alloc (Nat.le_refl _) _)
      have HX : Hid (Bx ((wr.alloc (.cells #[.string O, .string T] 43)).alloc (.cells #[.string O] 9)) (wr.heap.size + 1) [.string O]) := by
        have q := Bx.new (wr.alloc (.cells #[.string O, .string T] 43)) [.string O] 9
        rw [show (wr.alloc (.cells #[.string O, .string T] 43)).heap.size = wr.heap.size + 1 by simp] at q
        exact q
      go_wp2_with (at_builtin; refine Hid.out ?_)
      unfold Hid
      refine wpl_append_new rfl _ _ 27 rfl W.heap.size 9 i0 (.string ⟨#[]⟩) 1 16 Tryd.underlying27 hi0 iz0 iz1 iz2 rfl (by decide) _ (opsL.take j).length (stC (opsL.take j)) rfl KX.out.own ⟨wr.heap.size + 1, 0, none⟩ 1 [.string O] rfl rfl (bxa HX.out) (by intro u hu; simp at hu; subst hu; rfl) (by rw [HLn.out]; unfold maxLen; omega) (by rw [HLn.out]; omega) KX.out.low.size ?_
      intro v' w4 hown' hgrow hnew
      obtain ⟨sq', sn', sc', hv'⟩ := own_form hown'
      subst hv'
      have HF : Hid (SL W (opsL.take (j + 1)) (.slice sq' sn' sc') w4) := by show SL _ _ _ _; rw [HTa.out]; exact KX.out.many (M := [O]) hgrow hown'
      clear hown' hgrow hnew KX HX HTa HLn KS v0 v1
      go_wp2
      exact ⟨⟨j + 1, sq', sn', sc', rfl, by simp, by omega, HF⟩, by simp [intOf]; omega⟩
    · obtain rfl : j = 32 := by omega
      have HF : Hid (SL w opsL (.slice vq vn vc) wr) := by
        have q := KS.out
        rw [List.take_of_length_le (by rw [opsL_len]; exact Nat.le_refl _)] at q
        exact ⟨BT.out.1.trans (q.low.mono BT.out.1.size), ownsRow_lower q.own BT.out.1.size⟩
      go_wp2
      go_ret
      exact ⟨_, rfl, HF.out⟩

/-- the operations of the reference's rows, each once. -/
def rOp (L : List ByteArray) (x : ByteArray × List Int × Int) : List ByteArray := if L.getLast? = some x.1 then L else L ++ [x.1]
def rOps (j : Nat) : List ByteArray := (rtb.take j).foldl rOp []
theorem rOps_next {j : Nat} {x : ByteArray × List Int × Int} (hx : rtb[j]? = some x) : rOps (j + 1) = rOp (rOps j) x := by
  unfold rOps; rw [List.take_add_one, hx]; simp
theorem rOps_short : ∀ j, (rOps j).length ≤ j
  | 0 => Nat.le_refl _
  | j + 1 => by
    cases hx : rtb[j]? with
    | none =>
      have : rOps (j + 1) = rOps j := by unfold rOps; rw [List.take_add_one, hx]; simp
      rw [this]; have := rOps_short j; omega
    | some x =>
      rw [rOps_next hx]; unfold rOp
      have := rOps_short j
      split
      · omega
      · simp; omega
theorem rOps_all : rOps 90 ++ cops = opsL := by decide +kernel

set_option maxRecDepth 100000 in
set_option maxHeartbeats 4000000 in
theorem rops_any (w : World) :
    Calls Tryd.prog 13 #[] w fun e w' => ∃ v, e = .returned v ∧ SL w opsL v w' := by
  obtain ⟨i0, hi0, iz0, iz1, iz2⟩ := info_parts infoS
  go_enter Tryd.func13, Tryd.ntmps13
  go_wp2_with fail
  refine (rt_any w).mono ?_
  rintro e W ⟨rfl, hT⟩
  have HT : Hid (TB w W) := hT
  clear hT
  go_wp2_with fail
  go_loopw [1, 3] (fun v i V => ∃ (j : Nat) (vq : Option Addr) (vn vc : Nat), v = .slice vq vn vc ∧ i = .int .i64 (j : Int) ∧ j ≤ 90 ∧ Hid (SL W (rOps j) (.slice vq vn vc) V)) (fun _ i _ => 90 - (intOf i).toNat)
  case atStart => exact ⟨0, none, 0, 0, rfl, rfl, by omega, SL.start W⟩
  case round =>
    obtain ⟨j, vq, vn, vc, rfl, rfl, hj, KS⟩ := hrel
    have hj0 : (0 : Int) ≤ (j : Int) := by omega
    by_cases hj90 : j < 90
    · have hjI : (j : Int) < 90 := by omega
      have hjw : IntKind.i64.wrap ((j : Int) + 1) = (j : Int) + 1 := by rw [IntKind.wrap_i64]; omega
      obtain ⟨⟨O, A, T⟩, hx⟩ : ∃ x, rtb[j]? = some x := ⟨_, List.getElem?_eq_getElem (show j < rtb.length by rw [rtb_len]; exact hj90)⟩
      obtain ⟨y0, -, -, -⟩ := (HT.out.below KS.out.low).tab j _ hx
      have hlt := (HT.out.below KS.out.low).hi
      have hnx := rOps_next hx
      simp only at y0
      have hsh := rOps_short j
      obtain ⟨L, hL⟩ : ∃ L, rOps j = L := ⟨_, rfl⟩
      rw [hL] at hnx hsh KS
      have HNx : Hid (rOps (j + 1) = rOp L (O, A, T)) := hnx
      have HXR : Hid (rtb[j]? = some (O, A, T)) := hx
      clear hnx hL hx
      rcases List.eq_nil_or_concat L with rfl | ⟨L0, X, rfl⟩
      · obtain rfl : vn = 0 := by
          rcases KS.out.own.2 with ⟨e, _⟩ | ⟨g, cap, cur, e, _⟩
          · cases e; rfl
          · cases e; rfl
        have hnx : rOp [] (O, A, T) = [] ++ [O] := rfl
        rw [hnx] at HNx
        clear hnx
        have g0 : (((0 : Nat) : Int) == 0) = true := rfl
        go_wp2_with fail
        go_quiet (fail)
        refine gen_exH (SL W [] (.slice vq 0 vc)) (sl_drewN KS.out nq) ?_
        intro V hV
        have KV : Hid (SL W [] (.slice vq 0 vc) V) := hV
        clear hV KS y0 hlt
        obtain ⟨y0, -, -, -⟩ := (HT.out.below KV.out.low).tab j _ HXR.out
        have hlt := (HT.out.below KV.out.low).hi
        simp only at y0
        have KX : Hid (SL W ([] : List ByteArray) (.slice vq 0 vc) (V.alloc (.cells #[.string O] 9))) := KV.out.below ((Below.refl _ V).alloc (Nat.le_refl _) _)
        have HX : Hid (Bx (V.alloc (.cells #[.string O] 9)) V.heap.size [.string O]) := Bx.new V [.string O] 9
        clear KV
        go_wp2_with (at_builtin; refine Hid.out ?_)
        unfold Hid
        refine wpl_append_new rfl _ _ 27 rfl W.heap.size 9 i0 (.string ⟨#[]⟩) 1 16 Tryd.underlying27 hi0 iz0 iz1 iz2 rfl (by decide) _ ([] : List ByteArray).length (stC ([] : List ByteArray)) rfl KX.out.own ⟨V.heap.size, 0, none⟩ 1 [.string O] rfl rfl (bxa HX.out) (by intro u hu; simp at hu; subst hu; rfl) (by decide) (by decide) KX.out.low.size ?_
        intro v' w4 hown' hgrow hnew
        obtain ⟨sq', sn', sc', hv'⟩ := own_form hown'
        subst hv'
        have HF : Hid (SL W (rOps (j + 1)) (.slice sq' sn' sc') w4) := by show SL _ _ _ _; rw [HNx.out]; exact KX.out.many (M := [O]) hgrow hown'
        clear hown' hgrow hnew KX HX HNx
        go_wp2
        exact ⟨⟨j + 1, sq', sn', sc', rfl, by simp, by omega, HF⟩, by simp [intOf]; omega⟩
      · rw [List.concat_eq_append] at *
        obtain ⟨g, rfl, rfl, hcap, hcm⟩ : ∃ g, vq = some ⟨g, 0, none⟩ ∧ vn = (L0 ++ [X]).length ∧ (L0 ++ [X]).length ≤ vc ∧ vc ≤ maxLen := by
          rcases KS.out.own.2 with ⟨e, h⟩ | ⟨g, cap, cur, e, _, _, h3, h4, _⟩
          · simp at h
          · cases e; exact ⟨g, rfl, rfl, h3, h4⟩
        have z0 := KS.out.own.cellAt L0.length (by simp)
        rw [show (stC (L0 ++ [X]))[L0.length]? = some (.string X) by unfold stC; simp] at z0
        have hgl := World.block_lt_of_cell? _ _ z0
        simp only [List.length_append, List.length_cons, List.length_nil, Nat.zero_add] at hsh hcap KS ⊢
        unfold maxLen at hcm
        have g0 : (((L0.length : Int) + 1) == 0) = false := by simp; omega
        have hw2 : IntKind.i64.wrap (L0.length : Int) = (L0.length : Int) := by rw [IntKind.wrap_i64]; omega
        have hw1 : IntKind.i64.wrap (((L0.length : Int) + 1) - 1) = (L0.length : Int) := by rw [IntKind.wrap_i64]; omega
        have hcapI : (L0.length : Int) + 1 ≤ (vc : Int) := by omega
        have hcmI : (vc : Int) ≤ 9223372036854775807 := by omega
        by_cases hXO : X = O
        · have HNx2 : Hid (rOps (j + 1) = L0 ++ [X]) := by show _ = _; rw [HNx.out]; unfold rOp; rw [if_pos (by simp [hXO])]
          have gg : (X.toList == O.toList) = true := by rw [hXO]; simp
          clear HNx hXO
          go_wp2_with fail
          go_quiet (fail)
          refine gen_exH (SL W (L0 ++ [X]) (.slice (some ⟨g, 0, none⟩) (L0.length + 1) vc)) (sl_drewN KS.out nq) ?_
          intro V hV
          have HF : Hid (SL W (rOps (j + 1)) (.slice (some ⟨g, 0, none⟩) (L0.length + 1) vc) V) := by show SL _ _ _ _; rw [HNx2.out]; exact hV
          clear hV KS
          go_wp2
          exact ⟨⟨j + 1, _, _, _, rfl, by simp, by omega, HF⟩, by simp [intOf]; omega⟩
        · have hnx : rOp (L0 ++ [X]) (O, A, T) = (L0 ++ [X]) ++ [O] := by unfold rOp; rw [if_neg (by simp [hXO])]
          rw [hnx] at HNx
          have gg : (X.toList == O.toList) = false := by rw [toList_eq]; exact decide_eq_false hXO
          clear hnx hXO
          go_wp2_with fail
          go_quiet (fail)
          refine gen_exH (SL W (L0 ++ [X]) (.slice (some ⟨g, 0, none⟩) (L0.length + 1) vc)) (sl_drewN KS.out nq) ?_
          intro V hV
          have KV : Hid (SL W (L0 ++ [X]) (.slice (some ⟨g, 0, none⟩) (L0.length + 1) vc) V) := hV
          clear hV KS y0 hlt z0 hgl
          obtain ⟨y0, -, -, -⟩ := (HT.out.below KV.out.low).tab j _ HXR.out
          have hlt := (HT.out.below KV.out.low).hi
          simp only at y0
          have KX : Hid (SL W (L0 ++ [X]) (.slice (some ⟨g, 0, none⟩) (L0.length + 1) vc) (V.alloc (.cells #[.string O] 9))) := KV.out.below ((Below.refl _ V).alloc (Nat.le_refl _) _)
          have HX : Hid (Bx (V.alloc (.cells #[.string O] 9)) V.heap.size [.string O]) := Bx.new V [.string O] 9
          clear KV
          go_wp2_with (at_builtin; refine Hid.out ?_)
          unfold Hid
          refine wpl_append_new rfl _ _ 27 rfl W.heap.size 9 i0 (.string ⟨#[]⟩) 1 16 Tryd.underlying27 hi0 iz0 iz1 iz2 rfl (by decide) _ (L0 ++ [X]).length (stC (L0 ++ [X])) rfl KX.out.own ⟨V.heap.size, 0, none⟩ 1 [.string O] rfl rfl (bxa HX.out) (by intro u hu; simp at hu; subst hu; rfl) (by simp only [List.length_append, List.length_cons, List.length_nil] at hsh ⊢; unfold maxLen; omega) (by simp only [List.length_append, List.length_cons, List.length_nil] at hsh ⊢; omega) KX.out.low.size ?_
          intro v' w4 hown' hgrow hnew
          obtain ⟨sq', sn', sc', hv'⟩ := own_form hown'
          subst hv'
          have HF : Hid (SL W (rOps (j + 1)) (.slice sq' sn' sc') w4) := by show SL _ _ _ _; rw [HNx.out]; exact KX.out.many (M := [O]) hgrow hown'
          clear hown' hgrow hnew KX HX HNx
          go_wp2
          exact ⟨⟨j + 1, sq', sn', sc', rfl, by simp, by omega, HF⟩, by simp [intOf]; omega⟩
    · obtain rfl : j = 90 := by omega
      have hsh := rOps_short 90
      have KX : Hid (SL W (rOps 90) (.slice vq vn vc) (wr.alloc (.cells (stC cops).toArray 9))) := KS.out.below ((Below.refl _ wr).alloc (Nat.le_refl _) _)
      have HX : Hid (Bx (wr.alloc (.cells (stC cops).toArray 9)) wr.heap.size (stC cops)) := Bx.new wr (stC cops) 9
      rw [show (stC cops).toArray = #[.string ⟨#[61]⟩, .string ⟨#[60, 62]⟩, .string ⟨#[60]⟩, .string ⟨#[60, 61]⟩, .string ⟨#[62]⟩, .string ⟨#[62, 61]⟩] from rfl] at KX HX
      clear KS
      go_wp2_with (at_builtin; refine Hid.out ?_)
      unfold Hid
      refine wpList_append_own _ rfl _ _ 27 rfl W.heap.size 9 i0 (.string ⟨#[]⟩) 1 16 Tryd.underlying27 hi0 iz0 iz1 iz2 rfl (by decide) _ (rOps 90).length (stC (rOps 90)) rfl KX.out.own ⟨wr.heap.size, 0, none⟩ 6 6 (stC cops) rfl rfl (bxa HX.out) (stC_one cops) (by unfold maxLen; omega) (by omega) KX.out.low.size ?_
      intro v' w4 hown' hgrow hnil
      obtain ⟨sq', sn', sc', hv'⟩ := own_form hown'
      subst hv'
      have HF : Hid (SL w opsL (.slice sq' sn' sc') w4) := by
        have q := KX.out.many (M := cops) hgrow hown'
        rw [rOps_all] at q
        exact ⟨HT.out.low.trans (q.low.mono HT.out.low.size), ownsRow_lower q.own HT.out.low.size⟩
      clear hown' hgrow hnil KX HX
      go_wp2
      go_ret
      exact ⟨_, rfl, HF.out⟩

end Go.Proofs.YtcmefhnfdcngfaaDoor
