/- All tokens of a text: the program's tokens. -/
import Derived.Test.YtaoocecipacnhaaDoorExFq
namespace Go.Proofs.YtaoocecipacnhaaDoor
open Go.RowKit
set_option linter.unusedVariables false

theorem infoSpot : (Tryd.prog.info? 81).map (fun i => (i.zero, i.size, i.bytes)) = some (some (.agg #[.int .i64 0, .string ByteArray.empty, .int .i64 0]), 3, 32) := by kernel_rfl

/-- the parts left, in a row. -/
def PL (B : Nat) (u : Value) (L : List Tk) (W : World) : Prop := (L = [] ∧ ∃ sq c, u = .slice sq 0 c) ∨ ∃ b o cap, u = .slice (some ⟨b, o, none⟩) L.length cap ∧ b < B ∧ PV b o cap L W
/-- the tokens at hand, in a row of one's own. -/
structure TO (w : World) (B : Nat) (v : Value) (A : List Tk) (W : World) : Prop where
  low : Below w.heap.size w W
  b0 : w.heap.size ≤ B
  b1 : B ≤ W.heap.size
  own : W.ownsRow B 81 3 v A.length (flatT A)
def lenV : Value → Nat
  | .slice _ n _ => n
  | _ => 0
theorem TO.below {w : World} {B : Nat} {v : Value} {A : List Tk} {W V : World} (h : TO w B v A W) (k : Below W.heap.size W V) : TO w B v A V :=
  ⟨h.low.trans (k.mono h.low.size), h.b0, Nat.le_trans h.b1 k.size, ownsRow_keep h.own (fun c h1 h2 => k.block c h2)⟩
theorem TO.more {w : World} {B : Nat} {v v' : Value} {A : List Tk} {W V : World} {p : Tk} (h : TO w B v A W) (hg : W.grownBy V v.ownBlock) (ho : V.ownsRow B 81 3 v' (A.length + 1) (flatT A ++ [.int .i64 p.1, .string p.2.1, .int .i64 p.2.2])) : TO w B v' (A ++ [p]) V := by
  have hob : ∀ c, v.ownBlock = some c → B ≤ c := fun c hc => (ob_lt h.own hc).1
  refine ⟨⟨hg.os.trans h.low.os, hg.tape.trans h.low.tape, hg.output.trans h.low.output, Nat.le_trans h.low.size hg.size, fun k hk => (hg.block k (by have := h.low.size; omega) (fun e => by have := hob _ e.symm; have := h.b0; omega)).trans (h.low.block k hk)⟩, h.b0, Nat.le_trans h.b1 hg.size, ?_⟩
  rw [flatT_append, List.length_append]
  exact ho
theorem PV.grown {w : World} {B : Nat} {v : Value} {A : List Tk} {W V : World} {b o cap : Nat} {L : List Tk} (hp : PV b o cap L W) (h : TO w B v A W) (hb : b < B) (hg : W.grownBy V v.ownBlock) : PV b o cap L V := by
  have q := hg.block b hp.1 (fun e => by have := (ob_lt h.own e.symm).1; omega)
  refine ⟨Nat.lt_of_lt_of_le hp.1 hg.size, hp.2.1, hp.2.2.1, hp.2.2.2.1, fun j p e => ?_⟩
  obtain ⟨⟨q1, q2, q3⟩, q4⟩ := hp.2.2.2.2 j p e
  exact ⟨⟨(World.cell?_of_block (w := W) (a := ⟨b, o + j * 3, none⟩) q).trans q1, (World.cell?_of_block (w := W) (a := ⟨b, o + j * 3 + 1, none⟩) q).trans q2, (World.cell?_of_block (w := W) (a := ⟨b, o + j * 3 + 2, none⟩) q).trans q3⟩, q4⟩
theorem own_base {w : World} {B C : Nat} {e : TypeId} {size : Nat} {v : Value} {n : Nat} {xs : List Value} (h : w.ownsRow B e size v n xs) (hc : C ≤ B) : w.ownsRow C e size v n xs := by
  refine ⟨h.1, ?_⟩
  rcases h.2 with q | ⟨g, cap, cur, e1, h1, h2⟩
  · exact .inl q
  · exact .inr ⟨g, cap, cur, e1, Nat.le_trans hc h1, h2⟩
theorem PL.start {w W : World} {s : ByteArray} {v : Value} {P : List Prt} (hs : s.size ≤ 2048) (hc : Cov s 0 P s.size) (h : W.ownsRow w.heap.size 73 3 v P.length (flatP s P)) : PL W.heap.size v (texts s P) W := by
  have hl : (texts s P).length = P.length := by simp [texts]
  rcases h.2 with ⟨e, h0⟩ | ⟨g, cap, cur, e, h1, h2, h3, h4, h5, h6⟩
  · exact .inl ⟨by rw [List.length_eq_zero_iff.1 h0]; rfl, none, 0, e⟩
  · subst e
    have hlt := (Array.getElem?_eq_some_iff.1 h2).1
    have hcl := Cov_length s P 0 _ hc
    refine .inr ⟨g, 0, cap, by rw [hl], hlt, hlt, by omega, by omega, by unfold maxLen at h4; exact h4, fun j p e => ?_⟩
    obtain ⟨q1, q2, q3⟩ := flatT_at _ _ _ e
    have hj : j < P.length := by rw [← hl]; exact (List.getElem?_eq_some_iff.1 e).1
    rw [← flatP_texts] at q1 q2 q3
    obtain ⟨o1, o2, o3⟩ := Od_at j 0 _ p (Od_cov s P 0 _ hc) e
    refine ⟨⟨?_, ?_, ?_⟩, by omega, by omega, by omega⟩
    · rw [Nat.zero_add, h.cellAt _ (by omega)]; exact q1
    · rw [Nat.zero_add, h.cellAt _ (by omega)]; exact q2
    · rw [Nat.zero_add, h.cellAt _ (by omega)]; exact q3

def mkR : Sum Int (List Tk) → Sum (Int × Int) (List Tk)
  | .inl i => .inl (i, 30)
  | .inr T => .inr T
/-- what tokens hands back. -/
def TokOf (w : World) (e : Ending) (w' : World) : Sum (Int × Int) (List Tk) → Prop
  | .inl x => e = .returned (.tuple #[.slice none 0 0, .int .i64 x.1, .int .i64 x.2])
  | .inr T => ∃ v, e = .returned (.tuple #[v, .int .i64 0, .int .i64 0]) ∧ w'.ownsRow w.heap.size 81 3 v T.length (flatT T)

set_option maxRecDepth 100000 in
set_option maxHeartbeats 4000000 in
theorem tokens_any (s : ByteArray) (m : Int) (w : World) (hT : Tabs w) (hm : w.cell? ⟨2, 0, none⟩ = some (.int .i64 m)) (h2 : 2 < w.heap.size) (hsz : s.size ≤ 2048) :
    Calls Tryd.prog 14 #[.string s] w fun e w' => Below w.heap.size w w' ∧ TokOf w e w' (toksB s) := by
  obtain ⟨i0, hi0, iz0, iz1, iz2⟩ := info_parts infoSpot
  obtain ⟨R, hR⟩ : ∃ R, R = toksB s := ⟨_, rfl⟩
  rw [← hR]
  have hszI : (s.size : Int) ≤ 2048 := by omega
  go_enter Tryd.func14, Tryd.ntmps14
  go_wp2_with fail
  refine (wsplit_any s w hT hsz).mono ?_
  rintro e W1 ⟨hb, hsp⟩
  have HB : Hid (Below w.heap.size w W1) := hb
  have hz := hb.size
  clear hb
  cases hs : splitB s with
  | inl i =>
    rw [hs] at hsp
    obtain rfl := hsp
    have HR : Hid (R = .inl ((i : Int), 21)) := by show _ = _; rw [hR]; unfold toksB; rw [hs]
    clear hR
    go_wp2
    exact bodyPost_ret (v := .tuple #[.slice none 0 0, .int .i64 (i : Int), .int .i64 21]) (by simp [results, Tryd.results14, go_sem]) rfl ⟨HB.out, by rw [HR.out]; rfl⟩
  | inr P =>
    rw [hs] at hsp
    obtain ⟨u0, rfl, hown⟩ := hsp
    have hcov := splitB_cov hs
    have HPL : Hid (PL W1.heap.size u0 (texts s P) W1) := PL.start hsz hcov hown
    have HOd : Hid (Od s 0 (texts s P)) := Od_cov s P 0 _ hcov
    have hPl : P.length ≤ 2048 := by have := Cov_length s P 0 _ hcov; omega
    have HR : Hid (R = mkR (toksF s P.length (texts s P) [])) := by
      show _ = _; rw [hR]; unfold toksB; rw [hs]; dsimp only; cases toksF s P.length (texts s P) [] <;> rfl
    have HT0 : Hid (TO w W1.heap.size (.slice none 0 0) [] W1) := ⟨HB.out, hz, Nat.le_refl _, World.ownsRow_nil _ _ _ _⟩
    obtain ⟨sq0, sn0, sc0, hu0⟩ := own_form hown
    subst hu0
    clear hR hcov hown hs
    go_wp2_with fail
    go_loopw [5, 8] (fun u v W => ∃ (n : Nat) (L A : List Tk) (sq : Option Addr) (sn sc : Nat), v = .slice sq sn sc ∧ Hid (PL W1.heap.size u L W) ∧ Hid (TO w W1.heap.size v A W) ∧ Hid (Od s 0 L) ∧ L.length ≤ n ∧ A.length + n ≤ 2048 ∧ Hid (R = mkR (toksF s n L A))) (fun u _ _ => lenV u)
    case atStart => exact ⟨P.length, texts s P, [], none, 0, 0, rfl, HPL, HT0, HOd, by simp [texts], by simp; omega, HR⟩
    case round =>
      obtain ⟨n, L, A, sq, sn, sc, rfl, KP, KT, KO, hLn, hAn, KR⟩ := hrel
      clear HPL HOd HR HT0
      cases L with
      | nil =>
        obtain ⟨sq1, c1, rfl⟩ : ∃ sq1 c1, u5 = .slice sq1 0 c1 := by
          rcases KP.out with ⟨_, q⟩ | ⟨b, o, cap, q, _⟩
          · exact q
          · exact ⟨_, _, q⟩
        have HR : Hid (R = .inr (A ++ [(0, ⟨#[]⟩, (s.size : Int))])) := by
          show _ = _
          rw [KR.out]; cases n <;> rfl
        clear KR KO KP
        go_wp2_with (at_builtin; refine Hid.out ?_)
        unfold Hid
        refine wpl_append_new rfl _ _ 41 rfl W1.heap.size 81 i0 (.agg #[.int .i64 0, .string ByteArray.empty, .int .i64 0]) 3 32 Tryd.underlying41 hi0 iz0 iz1 iz2 rfl (by decide) _ A.length (flatT A) rfl ((KT.out.below ((Below.refl _ wr).alloc (Nat.le_refl _) _)).own) ⟨wr.heap.size, 0, none⟩ 1 [.int .i64 0, .string ⟨#[]⟩, .int .i64 (s.size : Int)] rfl rfl (part_new _ _ _ _ _) (part_one _ _ _) (by unfold maxLen; omega) (by omega) (by have := KT.out.b1; simp; omega) ?_
        intro v' w4 hown' hgrow hnew
        have HF : Hid _ := (KT.out.below ((Below.refl _ wr).alloc (Nat.le_refl _) _)).more (p := (0, ⟨#[]⟩, (s.size : Int))) hgrow hown'
        obtain ⟨sq', sn', sc', hv'⟩ := own_form hown'
        subst hv'
        clear hown' hgrow hnew KT
        go_wp2
        exact bodyPost_ret (v := .tuple #[.slice sq' sn' sc', .int .i64 0, .int .i64 0]) (by simp [results, Tryd.results14, go_sem]) rfl ⟨HF.out.low, by rw [HR.out]; exact ⟨_, rfl, own_base HF.out.own HF.out.b0⟩⟩
      | cons p l =>
        obtain ⟨b, o, cap, rfl, hbB, hPV⟩ : ∃ b o cap, u5 = .slice (some ⟨b, o, none⟩) (l.length + 1) cap ∧ b < W1.heap.size ∧ PV b o cap (p :: l) wr := by
          rcases KP.out with ⟨q, _⟩ | q
          · exact absurd q (by simp)
          · exact q
        have HV : Hid (PV b o cap (p :: l) wr) := hPV
        have hl4 : l.length + 1 ≤ 4096 := hPV.2.1
        have hlI : (l.length : Int) + 1 ≤ 4096 := by omega
        have hl0 : (0 : Int) < (l.length : Int) + 1 := by omega
        have hcp : l.length + 1 ≤ cap := hPV.2.2.1
        have hcp2 := hPV.2.2.2.1
        have hbw := hPV.1
        obtain ⟨⟨-, -, c2⟩, -⟩ := hPV.2.2.2.2 0 p rfl
        simp only [Nat.zero_mul, Nat.add_zero] at c2
        clear hPV KP
        go_wp2_with fail
        refine (first_any b o cap p l _ HV.out).mono ?_
        rintro e W2 ⟨rfl, hk⟩
        have KT2 : Hid (TO w W1.heap.size (.slice sq sn sc) A W2) := KT.out.below hk
        have HV2 : Hid (PV b o cap (p :: l) W2) := HV.out.below hk
        have hz2 := hk.size
        clear hk KT HV c2
        obtain ⟨k, hkk⟩ : ∃ k, k = (fstT p l).1 := ⟨_, rfl⟩
        cases hmm : (fstT p l).2 with
        | zero =>
          have HR : Hid (R = .inl (p.2.2, 30)) := by
            show _ = _
            obtain ⟨n, rfl⟩ : ∃ n', n = n' + 1 := ⟨n - 1, by simp only [List.length_cons] at hLn; omega⟩
            rw [KR.out, toksF, if_pos hmm]; rfl
          rw [← hkk]
          clear KR KO hmm hkk
          go_wp2
          exact bodyPost_ret (v := .tuple #[.slice none 0 0, .int .i64 p.2.2, .int .i64 30]) (by simp [results, Tryd.results14, go_sem]) rfl ⟨KT2.out.low, by rw [HR.out]; rfl⟩
        | succ j =>
          have hfl := fst_le p l
          rw [hmm] at hfl
          obtain ⟨q, hq, e1, e2, e3, e4, e5⟩ := end_at KO.out (m := j + 1) (by omega) hfl
          simp only [Nat.add_sub_cancel] at hq e1
          have hk3 : k = 3 → 1 ≤ j := fun h => by have := fst_3 p l (by rw [← hkk, h]); rw [hmm] at this; omega
          obtain ⟨n, rfl⟩ : ∃ n', n = n' + 1 := ⟨n - 1, by simp only [List.length_cons] at hLn; omega⟩
          have HR : Hid (R = mkR (toksF s n (l.drop j) (A ++ [(k, saidT k (s.extract p.2.2.toNat (q.2.2.toNat + q.2.1.size)), p.2.2)]))) := by
            show _ = _
            rw [KR.out, toksF, if_neg (by omega), tokT, hmm, ← hkk, Nat.add_sub_cancel, e1]; rfl
          have HO2 : Hid (Od s 0 (l.drop j)) := Od_drop (j + 1) 0 (p :: l) KO.out
          obtain ⟨⟨q0, q1, q2⟩, q3, q4, q5⟩ := HV2.out.2.2.2.2 j q hq
          rw [← hkk]
          have hjI : (j : Int) < (l.length : Int) + 1 := by omega
          have hj0 : (0 : Int) ≤ (j : Int) := by omega
          have hbV : b < W2.heap.size := by omega
          have e6 : (q.2.2 + (q.2.1.size : Int)).toNat = q.2.2.toNat + q.2.1.size := by omega
          have e7 : p.2.2 ≤ q.2.2 + (q.2.1.size : Int) := by omega
          have e8 : q.2.2 + (q.2.1.size : Int) ≤ (s.size : Int) := by omega
          have HK3 : Hid (k = 3 → 2 ≤ (s.extract p.2.2.toNat (q.2.2.toNat + q.2.1.size)).size) := fun h => by
            have := hk3 h
            rw [ByteArray.size_extract]; omega
          have hsx : (s.extract p.2.2.toNat (q.2.2.toNat + q.2.1.size)).size ≤ 4096 := by rw [ByteArray.size_extract]; omega
          clear KR KO hmm hkk hk3 e1 hq
          simp only [List.length_cons] at hLn
          go_wp2_with fail
          refine (behind_any q.1 q.2.1 q.2.2 _ q3 q4 q5).mono ?_
          rintro e W3 ⟨rfl, hk⟩
          have KT3 : Hid (TO w W1.heap.size (.slice sq sn sc) A W3) := (KT2.out.below ((Below.refl _ W2).alloc (Nat.le_refl _) _)).below hk
          have HV3 : Hid (PV b o cap (p :: l) W3) := (HV2.out.below ((Below.refl _ W2).alloc (Nat.le_refl _) _)).below hk
          clear hk KT2 HV2
          have HM3 : Hid (W3.cell? ⟨2, 0, none⟩ = some (.int .i64 m)) := (KT3.out.low.cell (p := ⟨2, 0, none⟩) h2).trans hm
          go_wp2_with fail
          refine (said_any k _ m _ HM3.out hsx HK3.out).mono ?_
          rintro e W4 ⟨rfl, hk⟩
          have KT4 : Hid (TO w W1.heap.size (.slice sq sn sc) A W4) := KT3.out.below hk
          have HV4 : Hid (PV b o cap (p :: l) W4) := HV3.out.below hk
          clear hk KT3 HV3 HM3 HK3
          generalize hx : saidT k (s.extract p.2.2.toNat (q.2.2.toNat + q.2.1.size)) = x at *
          clear hx
          go_wp2_with (at_builtin; refine Hid.out ?_)
          unfold Hid
          refine wpl_append_new rfl _ _ 41 rfl W1.heap.size 81 i0 (.agg #[.int .i64 0, .string ByteArray.empty, .int .i64 0]) 3 32 Tryd.underlying41 hi0 iz0 iz1 iz2 rfl (by decide) _ A.length (flatT A) rfl ((KT4.out.below ((Below.refl _ W4).alloc (Nat.le_refl _) _)).own) ⟨W4.heap.size, 0, none⟩ 1 [.int .i64 k, .string x, .int .i64 p.2.2] rfl rfl (part_new _ _ _ _ _) (part_one _ _ _) (by unfold maxLen; omega) (by omega) (by have := KT4.out.b1; simp; omega) ?_
          intro v' w5 hown' hgrow hnew
          have HF : Hid (TO w W1.heap.size v' (A ++ [(k, x, p.2.2)]) w5) := (KT4.out.below ((Below.refl _ W4).alloc (Nat.le_refl _) _)).more (p := (k, x, p.2.2)) hgrow hown'
          have HV5 : Hid (PV b o cap (p :: l) w5) := (HV4.out.below ((Below.refl _ W4).alloc (Nat.le_refl _) _)).grown (KT4.out.below ((Below.refl _ W4).alloc (Nat.le_refl _) _)) hbB hgrow
          obtain ⟨sq', sn', sc', hv'⟩ := own_form hown'
          subst hv'
          clear hown' hgrow hnew KT4 HV4
          go_wp2
          refine ⟨⟨n, l.drop j, A ++ [(k, x, p.2.2)], sq', sn', sc', rfl, ?_, HF.out, HO2.out, by simp; omega, by simp; omega, HR.out⟩, by simp only [lenV]; omega⟩
          by_cases hcj : cap = j + 1
          · have hlj : l.length = j := by omega
            exact .inl ⟨by rw [← hlj]; simp, some ⟨b, o, none⟩, 0, by rw [if_pos hcj, hlj, hcj]; simp⟩
          · exact .inr ⟨b, o + (j + 1) * 3, cap - (j + 1), by rw [if_neg hcj, List.length_drop], hbB, HV5.out.drop (j + 1) (by simp; omega)⟩

end Go.Proofs.YtaoocecipacnhaaDoor
