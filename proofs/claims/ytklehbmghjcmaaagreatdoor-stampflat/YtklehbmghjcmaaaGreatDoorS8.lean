import Derived.Test.YtklehbmghjcmaaaGreatDoorSz
import Derived.Test.YtklehbmghjcmaaaGreatDoorS3
import Derived.Test.YtklehbmghjcmaaaGreatDoorS7
import Derived.Laws.StructEq
import Derived.Deep.Cut
import Derived.Deep.QuietTactic
import Derived.BigQuiet
open Go.Value renaming int → vi
open Go.IntKind renaming i64 → ki
open List renaming setIfInBounds_toArray → zb, set_cons_zero → zc, set_cons_succ → zd
open Go.Act renaming put → za
open Go.Ending renaming returned → zr
set_option maxRecDepth 100000
set_option maxHeartbeats 16000000
set_option linter.unusedVariables false
namespace Go.Proofs.YtklehbmghjcmaaaGreatDoor
open Go.RowKit Sr
theorem below_drw (w : World) : Below w.heap.size w w.drew := (Below.refl _ w).drew
def OkTr (L : List TrR) (j : Nat) : Prop := ∃ x, L[j]? = some x ∧ offB x.off = true ∧ -1125899906842624 ≤ x.at_ ∧ x.at_ ≤ 1125899906842624 ∧ (j = 0 ∨ ∃ p, L[j - 1]? = some p ∧ p.at_ < x.at_)
theorem okMore {L : List TrR} {j : Nat} (h : ∀ i, i < j → OkTr L i) (k : OkTr L j) : ∀ i, i < j + 1 → OkTr L i := fun i hi => by
 rcases Nat.lt_or_eq_of_le (Nat.lt_succ_iff.1 hi) with h1 | rfl
 ·exact h i h1
 ·exact k
theorem load_mid_on {P : Program} {ops : Array Oper} {rest : List Oper} {op : Oper} {a : Act} {w : World} {Q : Exit → Act → World → Prop} (hgd : Region.wanted op (yielded ops a.tmps) = true) (ty : TypeId) (x : Operand) (ho : op.op = .load ty x)
  (b o : Nat) (hx : a.eval x = .pointer (some ⟨b, o, none⟩)) (cs : List Value) (d : TypeDesc) (hc : w.rangeAt b o cs)
  (hu : P.underlying ty = some d) (hd : d.isRow = true) (hi : (P.info? ty).map (·.size) = some cs.length)
  (h : wpList P ops Q rest (a.put op.dst (.agg cs.toArray)) w) : wpList P ops Q (op :: rest) a w := by
 unfold wpList
 rw [if_pos hgd]
 exact .inl (wp_load_mid ty x ho b o hx cs d hc hu hd hi h)
theorem right_gen (nm : ByteArray) (f : TrR) (sv : Value) (FL : List Value) (hF : FL.length = 19) (L : List TrR) (z b r : Bool) (h1 : f.at_ = 0) (h2 : offB f.off = true) (h3 : L.length ≤ 4096) (hno : (∃ j, j < L.length ∧ ¬ OkTr L j) → b = false)
  (hyes : (∀ j, j < L.length → OkTr L j) → b = (z || r)) (hEQ : ∀ W : World, (Op.equalIn 10000 42 (.agg FL.toArray) (.agg #[.bool false, vi ki 0, vi ki 0, vi ki 0, vi ki 0, vi ki 0, vi ki 0, vi ki 0, .int .u8 0, vi ki 0, .string ⟨#[]⟩, vi ki 0, vi ki 0, vi ki 0, vi ki 0, vi ki 0, .int .u8 0, vi ki 0, .string ⟨#[]⟩])).run Tryz.prog W = .ok z W) (w : World) (HT : Hid (TrAt w sv L))
  (RF : Hid (z = false → ∀ W : World, Below w.heap.size w W → Calls Tryz.prog 75 #[.agg (tbF nm f sv FL).toArray] W fun e w' => e = zr (.bool r) ∧ Below W.heap.size W w')) :
  Calls Tryz.prog 31 #[.agg (tbF nm f sv FL).toArray] w fun e w' => e = zr (.bool b) ∧ Below w.heap.size w w' := by
 have X1 : Hid (Bx (w.alloc (.cells (tbF nm f sv FL).toArray 44)) w.heap.size (tbF nm f sv FL)) := Bx.new w (tbF nm f sv FL) 44
 have B1 : Hid (Below w.heap.size w (w.alloc (.cells (tbF nm f sv FL).toArray 44))) := (Below.refl _ _).alloc (Nat.le_refl _) _
 obtain ⟨⟨ao, c, hsv⟩, hml, _⟩ := HT.out
 obtain ⟨n, hn⟩ : ∃ n, L.length = n := ⟨_, rfl⟩
 rw [hn] at hsv hml h3 hno hyes
 subst hsv
 clear hml
 go_enter Tryz.func31, Tryz.ntmps31
 generalize hUA : (tbF nm f (.slice ao n c) FL).toArray = UA at *
 go_upto_region 1 with fail
 refine gen_code (fun V => Bx V w.heap.size (tbF nm f (.slice ao n c) FL) ∧ Below w.heap.size w V) ⟨X1.out, B1.out⟩ ?_
 clear X1 B1
 rintro V ⟨XV, BV⟩
 have c1 := XV.c 1 (v := vi ki 0) (by rw [← h1]; rfl)
 have c2 := XV.c 2 (v := vi ki f.off) rfl
 have c5 := XV.c 5 (v := (.slice ao n c)) rfl
 have HX : Hid (Bx V w.heap.size (tbF nm f (.slice ao n c) FL)) := XV
 have HB : Hid (Below w.heap.size w V) := BV
 clear XV BV h1
 go_wp2_with fail
 refine (isOff_any _ _).mono ?_
 rintro e v1 ⟨rfl, hv1⟩
 obtain rfl := hv1.symm
 clear hv1
 rw [h2]
 go_wp2_with fail
 go_loopw [25] (fun iv wr => ∃ j : Nat, iv = vi ki (j : Int) ∧ j ≤ n ∧ Hid (Bx wr w.heap.size (tbF nm f (.slice ao n c) FL)) ∧ Hid (Below w.heap.size w wr) ∧ Hid (∀ i, i < j → OkTr L i)) (fun iv _ => n - (intOf iv).toNat)
 case atStart => exact ⟨0, rfl, Nat.zero_le _, HX, HB, fun i hi => by omega⟩
 case round =>
  clear HX HB c1 c2 c5
  obtain ⟨j, rfl, hj, HX, HB, HOK⟩ := hrel
  by_cases hjn : j < n
  ·obtain ⟨x, hx⟩ : ∃ x, L[j]? = some x := ⟨_, List.getElem?_eq_getElem (by omega)⟩
   have HTW : Hid (TrAt wr (.slice ao n c) L) := HT.out.mv (HB.out.mono (Nat.le_refl _))
   obtain ⟨g, o, c', hsv, hrg⟩ := HTW.out.row hx
   rw [hn] at hsv
   simp only [Value.slice.injEq, true_and] at hsv
   obtain ⟨rfl, rfl⟩ := hsv
   obtain ⟨p, hp0⟩ : ∃ p, 0 < j → L[j - 1]? = some p ∧ wr.cell? ⟨g, o + (j - 1) * 4, none⟩ = some (vi ki p.at_) := by
    by_cases hj0 : 0 < j
    ·obtain ⟨p, hp⟩ : ∃ p, L[j - 1]? = some p := ⟨_, List.getElem?_eq_getElem (by omega)⟩
     obtain ⟨g2, o2, c2, hs2, hr2⟩ := HTW.out.row hp
     simp only [Value.slice.injEq, Option.some.injEq, Addr.mk.injEq, and_true] at hs2
     obtain ⟨⟨rfl, rfl⟩, _⟩ := hs2
     exact ⟨p, fun _ => ⟨hp, hr2 0 _ rfl⟩⟩
    ·exact ⟨x, fun h => absurd h hj0⟩
   obtain ⟨q, hq⟩ : ∃ q, p.at_ = q := ⟨_, rfl⟩
   rw [hq] at hp0
   have HRG : Hid (wr.rangeAt g (o + j * 4) (trC x)) := hrg
   have HP0 : Hid (0 < j → L[j - 1]? = some p ∧ wr.cell? ⟨g, o + (j - 1) * 4, none⟩ = some (vi ki q)) := hp0
   have HXX : Hid (L[j]? = some x) := hx
   have XN : Hid (Bx (wr.alloc (.cells #[vi ki x.at_, vi ki x.off, .bool x.dst, .string x.ab] 23)) wr.heap.size [vi ki x.at_, vi ki x.off, .bool x.dst, .string x.ab]) := Bx.new wr [vi ki x.at_, vi ki x.off, .bool x.dst, .string x.ab] 23
   clear hrg hx hp0
   go_upto_region 6 with (first | (refine wpList_load_mid rfl 23 _ rfl g (o + j * 4) rfl [vi ki x.at_, vi ki x.off, .bool x.dst, .string x.ab] _ HRG.out Tryz.underlying23 rfl (by kernel_rfl) ?_) | fail)
   refine gen_code (fun V => (fun W : World => W.cell? ⟨wr.heap.size, 0, none⟩ = some (vi ki x.at_) ∧ W.cell? ⟨wr.heap.size, 1, none⟩ = some (vi ki x.off) ∧ W.cell? ⟨w.heap.size, 5, none⟩ = some (.slice (some ⟨g, o, none⟩) n c) ∧ (0 < j → W.cell? ⟨g, o + (j - 1) * 4, none⟩ = some (vi ki q))) V ∧ Bx V w.heap.size (tbF nm f (.slice (some ⟨g, o, none⟩) n c) FL) ∧ Below w.heap.size w V) ⟨⟨XN.out.c 0 rfl, XN.out.c 1 rfl, (HX.out.alloc _).c 5 rfl, fun h => ((Below.refl _ wr).alloc (Nat.le_refl _) _ |>.cell (p := ⟨g, o + (j - 1) * 4, none⟩) (World.block_lt_of_cell? wr _ (HP0.out h).2)).trans (HP0.out h).2⟩, HX.out.alloc _, HB.out.alloc HB.out.size _⟩ ?_
   clear HX HB XN HRG HTW
   rintro V6 ⟨h6, X6, B6⟩
   have HS6 : Hid ((fun W : World => W.cell? ⟨wr.heap.size, 0, none⟩ = some (vi ki x.at_) ∧ W.cell? ⟨wr.heap.size, 1, none⟩ = some (vi ki x.off) ∧ W.cell? ⟨w.heap.size, 5, none⟩ = some (.slice (some ⟨g, o, none⟩) n c) ∧ (0 < j → W.cell? ⟨g, o + (j - 1) * 4, none⟩ = some (vi ki q))) V6) := h6
   have hx := HXX.out
   have HBW : Below w.heap.size w V6.drew := B6.trans ((below_drw _).mono B6.size)
   have HXW : Bx V6.drew w.heap.size (tbF nm f (.slice (some ⟨g, o, none⟩) n c) FL) := X6.below (below_drw _)
   clear h6 X6 B6
   cases hO : offB x.off
   ·skip
    have HNO : ¬ OkTr L j := fun ⟨x', e', k1, k2, k3, k4⟩ => by (rw [hx] at e'; cases e'; rw [hO] at k1; cases k1)
    refine wp_region_held_drew (S := (fun W : World => W.cell? ⟨wr.heap.size, 0, none⟩ = some (vi ki x.at_) ∧ W.cell? ⟨wr.heap.size, 1, none⟩ = some (vi ki x.off) ∧ W.cell? ⟨w.heap.size, 5, none⟩ = some (.slice (some ⟨g, o, none⟩) n c) ∧ (0 < j → W.cell? ⟨g, o + (j - 1) * 4, none⟩ = some (vi ki q)))) (by kernel_rfl) (by simpa [go_sem] using HS6.out) (fun hHeld => ?_)
    refine tk (v := ?_) 0 ⟨some 30, _, _, _, _, none⟩ rfl ?_ ?_
    case refine_2 => (rintro w9 -; (go_simp); (try omega); (try (intro h9; exact absurd (h9 (by omega)) (by omega))); try with_reducible rfl)
    simp only [za, zb, zc, zd]
    refine tk (v := ?_) 1 ⟨some 31, _, _, _, _, none⟩ rfl ?_ ?_
    case refine_2 => (intro w9 hSw; obtain ⟨s1, s2, s3, s4⟩ := hSw; (go_simp); (try omega); (try (intro h9; exact absurd (h9 (by omega)) (by omega))); try with_reducible rfl)
    simp only [za, zb, zc, zd]
    refine rd 2 ⟨some 32, _, _, _, _, none⟩ rfl (fun K hK => ?_)
    go_simp
    refine (isOff_any _ _).mono ?_
    rintro e v1 ⟨rfl, hv1⟩
    obtain rfl := hv1.symm
    rw [hO]
    refine hK.out _ _ hHeld (fun hHeld => ?_)
    clear hK K
    refine tk (v := ?_) 3 ⟨some 33, _, _, _, _, none⟩ rfl ?_ ?_
    case refine_2 => (rintro w9 -; (go_simp); (try omega); (try (intro h9; exact absurd (h9 (by omega)) (by omega))); try with_reducible rfl)
    simp only [za, zb, zc, zd]
    refine tk (v := ?_) 4 ⟨some 34, _, _, _, _, none⟩ rfl ?_ ?_
    case refine_2 => (rintro w9 -; (go_simp); (try omega); (try (intro h9; exact absurd (h9 (by omega)) (by omega))); try with_reducible rfl)
    simp only [za, zb, zc, zd]
    refine tku 5 ⟨some 35, _, _, _, _, some (4, false)⟩ rfl ?_
    simp only [za, zb, zc, zd]
    refine tku 6 ⟨some 36, _, _, _, _, some (4, false)⟩ rfl ?_
    simp only [za, zb, zc, zd]
    refine tku 7 ⟨some 37, _, _, _, _, some (4, false)⟩ rfl ?_
    simp only [za, zb, zc, zd]
    refine tk (v := ?_) 8 ⟨some 38, _, _, _, _, none⟩ rfl ?_ ?_
    case refine_2 => (rintro w9 -; (go_simp); (try omega); (try (intro h9; exact absurd (h9 (by omega)) (by omega))); try with_reducible rfl)
    simp only [za, zb, zc, zd]
    refine tk (v := ?_) 9 ⟨some 39, _, _, _, _, none⟩ rfl ?_ ?_
    case refine_2 => (rintro w9 -; (go_simp); (try omega); (try (intro h9; exact absurd (h9 (by omega)) (by omega))); try with_reducible rfl)
    simp only [za, zb, zc, zd]
    refine tku 10 ⟨some 40, _, _, _, _, some (9, false)⟩ rfl ?_
    simp only [za, zb, zc, zd]
    refine tku 11 ⟨some 41, _, _, _, _, some (9, false)⟩ rfl ?_
    simp only [za, zb, zc, zd]
    refine tku 12 ⟨some 42, _, _, _, _, some (9, false)⟩ rfl ?_
    simp only [za, zb, zc, zd]
    refine tk (v := ?_) 13 ⟨some 43, _, _, _, _, none⟩ rfl ?_ ?_
    case refine_2 => (rintro w9 -; (go_simp); (try omega); (try (intro h9; exact absurd (h9 (by omega)) (by omega))); try with_reducible rfl)
    simp only [za, zb, zc, zd]
    refine tk (v := ?_) 14 ⟨some 44, _, _, _, _, none⟩ rfl ?_ ?_
    case refine_2 => (rintro w9 -; (go_simp); (try omega); (try (intro h9; exact absurd (h9 (by omega)) (by omega))); try with_reducible rfl)
    simp only [za, zb, zc, zd]
    refine tku 15 ⟨some 45, _, _, _, _, some (14, false)⟩ rfl ?_
    simp only [za, zb, zc, zd]
    refine tku 16 ⟨some 46, _, _, _, _, some (14, false)⟩ rfl ?_
    simp only [za, zb, zc, zd]
    refine tku 17 ⟨some 47, _, _, _, _, some (14, false)⟩ rfl ?_
    simp only [za, zb, zc, zd]
    refine tku 18 ⟨some 48, _, _, _, _, some (17, true)⟩ rfl ?_
    simp only [za, zb, zc, zd]
    refine tku 19 ⟨some 49, _, _, _, _, some (17, true)⟩ rfl ?_
    simp only [za, zb, zc, zd]
    refine tku 20 ⟨some 50, _, _, _, _, some (17, true)⟩ rfl ?_
    simp only [za, zb, zc, zd]
    refine tku 21 ⟨some 51, _, _, _, _, some (17, true)⟩ rfl ?_
    simp only [za, zb, zc, zd]
    refine tku 22 ⟨some 52, _, _, _, _, some (17, true)⟩ rfl ?_
    simp only [za, zb, zc, zd]
    refine tku 23 ⟨some 53, _, _, _, _, some (17, true)⟩ rfl ?_
    simp only [za, zb, zc, zd]
    refine tku 24 ⟨some 54, _, _, _, _, some (17, true)⟩ rfl ?_
    simp only [za, zb, zc, zd]
    refine tku 25 ⟨some 55, _, _, _, _, some (17, true)⟩ rfl ?_
    simp only [za, zb, zc, zd]
    refine tku 26 ⟨some 56, _, _, _, _, some (17, true)⟩ rfl ?_
    simp only [za, zb, zc, zd]
    refine tku 27 ⟨some 57, _, _, _, _, some (17, true)⟩ rfl ?_
    simp only [za, zb, zc, zd]
    refine tku 28 ⟨some 58, _, _, _, _, some (14, false)⟩ rfl ?_
    simp only [za, zb, zc, zd]
    refine tk (v := ?_) 29 ⟨some 59, _, _, _, _, none⟩ rfl ?_ ?_
    case refine_2 => (rintro w9 -; (go_simp); (try omega); (try (intro h9; exact absurd (h9 (by omega)) (by omega))); try with_reducible rfl)
    simp only [za, zb, zc, zd]
    refine wpAnyH_done (by kernel_rfl) ?_ _
    go_wp2_with fail
    exact bodyPost_ret (v := .bool false) (by simp [results, Tryz.results31, go_sem]) rfl ⟨ret_b9 (hno ⟨j, hjn, HNO⟩).symm, HBW⟩
   by_cases ha : x.at_ < -1125899906842624
   ·skip
    have HNO : ¬ OkTr L j := fun ⟨x', e', k1, k2, k3, k4⟩ => by (rw [hx] at e'; cases e'; omega)
    refine wp_region_held_drew (S := (fun W : World => W.cell? ⟨wr.heap.size, 0, none⟩ = some (vi ki x.at_) ∧ W.cell? ⟨wr.heap.size, 1, none⟩ = some (vi ki x.off) ∧ W.cell? ⟨w.heap.size, 5, none⟩ = some (.slice (some ⟨g, o, none⟩) n c) ∧ (0 < j → W.cell? ⟨g, o + (j - 1) * 4, none⟩ = some (vi ki q)))) (by kernel_rfl) (by simpa [go_sem] using HS6.out) (fun hHeld => ?_)
    refine tk (v := ?_) 0 ⟨some 30, _, _, _, _, none⟩ rfl ?_ ?_
    case refine_2 => (rintro w9 -; (go_simp); (try omega); (try (intro h9; exact absurd (h9 (by omega)) (by omega))); try with_reducible rfl)
    simp only [za, zb, zc, zd]
    refine tk (v := ?_) 1 ⟨some 31, _, _, _, _, none⟩ rfl ?_ ?_
    case refine_2 => (intro w9 hSw; obtain ⟨s1, s2, s3, s4⟩ := hSw; (go_simp); (try omega); (try (intro h9; exact absurd (h9 (by omega)) (by omega))); try with_reducible rfl)
    simp only [za, zb, zc, zd]
    refine rd 2 ⟨some 32, _, _, _, _, none⟩ rfl (fun K hK => ?_)
    go_simp
    refine (isOff_any _ _).mono ?_
    rintro e v1 ⟨rfl, hv1⟩
    obtain rfl := hv1.symm
    rw [hO]
    refine hK.out _ _ hHeld (fun hHeld => ?_)
    clear hK K
    refine tk (v := ?_) 3 ⟨some 33, _, _, _, _, none⟩ rfl ?_ ?_
    case refine_2 => (rintro w9 -; (go_simp); (try omega); (try (intro h9; exact absurd (h9 (by omega)) (by omega))); try with_reducible rfl)
    simp only [za, zb, zc, zd]
    refine tk (v := ?_) 4 ⟨some 34, _, _, _, _, none⟩ rfl ?_ ?_
    case refine_2 => (rintro w9 -; (go_simp); (try omega); (try (intro h9; exact absurd (h9 (by omega)) (by omega))); try with_reducible rfl)
    simp only [za, zb, zc, zd]
    refine tk (v := ?_) 5 ⟨some 35, _, _, _, _, some (4, false)⟩ rfl ?_ ?_
    case refine_2 => (rintro w9 -; (go_simp); (try omega); (try (intro h9; exact absurd (h9 (by omega)) (by omega))); try with_reducible rfl)
    simp only [za, zb, zc, zd]
    refine tk (v := ?_) 6 ⟨some 36, _, _, _, _, some (4, false)⟩ rfl ?_ ?_
    case refine_2 => (intro w9 hSw; obtain ⟨s1, s2, s3, s4⟩ := hSw; (go_simp); (try omega); (try (intro h9; exact absurd (h9 (by omega)) (by omega))); try with_reducible rfl)
    simp only [za, zb, zc, zd]
    refine tk (v := ?_) 7 ⟨some 37, _, _, _, _, some (4, false)⟩ rfl ?_ ?_
    case refine_2 => (rintro w9 -; (go_simp); (try omega); (try (intro h9; exact absurd (h9 (by omega)) (by omega))); try with_reducible rfl)
    simp only [za, zb, zc, zd]
    refine tk (v := ?_) 8 ⟨some 38, _, _, _, _, none⟩ rfl ?_ ?_
    case refine_2 => (rintro w9 -; (go_simp); (try omega); (try (intro h9; exact absurd (h9 (by omega)) (by omega))); try with_reducible rfl)
    simp only [za, zb, zc, zd]
    refine tk (v := ?_) 9 ⟨some 39, _, _, _, _, none⟩ rfl ?_ ?_
    case refine_2 => (rintro w9 -; (go_simp); (try omega); (try (intro h9; exact absurd (h9 (by omega)) (by omega))); try with_reducible rfl)
    simp only [za, zb, zc, zd]
    refine tku 10 ⟨some 40, _, _, _, _, some (9, false)⟩ rfl ?_
    simp only [za, zb, zc, zd]
    refine tku 11 ⟨some 41, _, _, _, _, some (9, false)⟩ rfl ?_
    simp only [za, zb, zc, zd]
    refine tku 12 ⟨some 42, _, _, _, _, some (9, false)⟩ rfl ?_
    simp only [za, zb, zc, zd]
    refine tk (v := ?_) 13 ⟨some 43, _, _, _, _, none⟩ rfl ?_ ?_
    case refine_2 => (rintro w9 -; (go_simp); (try omega); (try (intro h9; exact absurd (h9 (by omega)) (by omega))); try with_reducible rfl)
    simp only [za, zb, zc, zd]
    refine tk (v := ?_) 14 ⟨some 44, _, _, _, _, none⟩ rfl ?_ ?_
    case refine_2 => (rintro w9 -; (go_simp); (try omega); (try (intro h9; exact absurd (h9 (by omega)) (by omega))); try with_reducible rfl)
    simp only [za, zb, zc, zd]
    refine tku 15 ⟨some 45, _, _, _, _, some (14, false)⟩ rfl ?_
    simp only [za, zb, zc, zd]
    refine tku 16 ⟨some 46, _, _, _, _, some (14, false)⟩ rfl ?_
    simp only [za, zb, zc, zd]
    refine tku 17 ⟨some 47, _, _, _, _, some (14, false)⟩ rfl ?_
    simp only [za, zb, zc, zd]
    refine tku 18 ⟨some 48, _, _, _, _, some (17, true)⟩ rfl ?_
    simp only [za, zb, zc, zd]
    refine tku 19 ⟨some 49, _, _, _, _, some (17, true)⟩ rfl ?_
    simp only [za, zb, zc, zd]
    refine tku 20 ⟨some 50, _, _, _, _, some (17, true)⟩ rfl ?_
    simp only [za, zb, zc, zd]
    refine tku 21 ⟨some 51, _, _, _, _, some (17, true)⟩ rfl ?_
    simp only [za, zb, zc, zd]
    refine tku 22 ⟨some 52, _, _, _, _, some (17, true)⟩ rfl ?_
    simp only [za, zb, zc, zd]
    refine tku 23 ⟨some 53, _, _, _, _, some (17, true)⟩ rfl ?_
    simp only [za, zb, zc, zd]
    refine tku 24 ⟨some 54, _, _, _, _, some (17, true)⟩ rfl ?_
    simp only [za, zb, zc, zd]
    refine tku 25 ⟨some 55, _, _, _, _, some (17, true)⟩ rfl ?_
    simp only [za, zb, zc, zd]
    refine tku 26 ⟨some 56, _, _, _, _, some (17, true)⟩ rfl ?_
    simp only [za, zb, zc, zd]
    refine tku 27 ⟨some 57, _, _, _, _, some (17, true)⟩ rfl ?_
    simp only [za, zb, zc, zd]
    refine tku 28 ⟨some 58, _, _, _, _, some (14, false)⟩ rfl ?_
    simp only [za, zb, zc, zd]
    refine tk (v := ?_) 29 ⟨some 59, _, _, _, _, none⟩ rfl ?_ ?_
    case refine_2 => (rintro w9 -; (go_simp); (try omega); (try (intro h9; exact absurd (h9 (by omega)) (by omega))); try with_reducible rfl)
    simp only [za, zb, zc, zd]
    refine wpAnyH_done (by kernel_rfl) ?_ _
    go_wp2_with fail
    exact bodyPost_ret (v := .bool false) (by simp [results, Tryz.results31, go_sem]) rfl ⟨ret_b9 (hno ⟨j, hjn, HNO⟩).symm, HBW⟩
   by_cases hb : 1125899906842624 < x.at_
   ·skip
    have HNO : ¬ OkTr L j := fun ⟨x', e', k1, k2, k3, k4⟩ => by (rw [hx] at e'; cases e'; omega)
    refine wp_region_held_drew (S := (fun W : World => W.cell? ⟨wr.heap.size, 0, none⟩ = some (vi ki x.at_) ∧ W.cell? ⟨wr.heap.size, 1, none⟩ = some (vi ki x.off) ∧ W.cell? ⟨w.heap.size, 5, none⟩ = some (.slice (some ⟨g, o, none⟩) n c) ∧ (0 < j → W.cell? ⟨g, o + (j - 1) * 4, none⟩ = some (vi ki q)))) (by kernel_rfl) (by simpa [go_sem] using HS6.out) (fun hHeld => ?_)
    refine tk (v := ?_) 0 ⟨some 30, _, _, _, _, none⟩ rfl ?_ ?_
    case refine_2 => (rintro w9 -; (go_simp); (try omega); (try (intro h9; exact absurd (h9 (by omega)) (by omega))); try with_reducible rfl)
    simp only [za, zb, zc, zd]
    refine tk (v := ?_) 1 ⟨some 31, _, _, _, _, none⟩ rfl ?_ ?_
    case refine_2 => (intro w9 hSw; obtain ⟨s1, s2, s3, s4⟩ := hSw; (go_simp); (try omega); (try (intro h9; exact absurd (h9 (by omega)) (by omega))); try with_reducible rfl)
    simp only [za, zb, zc, zd]
    refine rd 2 ⟨some 32, _, _, _, _, none⟩ rfl (fun K hK => ?_)
    go_simp
    refine (isOff_any _ _).mono ?_
    rintro e v1 ⟨rfl, hv1⟩
    obtain rfl := hv1.symm
    rw [hO]
    refine hK.out _ _ hHeld (fun hHeld => ?_)
    clear hK K
    refine tk (v := ?_) 3 ⟨some 33, _, _, _, _, none⟩ rfl ?_ ?_
    case refine_2 => (rintro w9 -; (go_simp); (try omega); (try (intro h9; exact absurd (h9 (by omega)) (by omega))); try with_reducible rfl)
    simp only [za, zb, zc, zd]
    refine tk (v := ?_) 4 ⟨some 34, _, _, _, _, none⟩ rfl ?_ ?_
    case refine_2 => (rintro w9 -; (go_simp); (try omega); (try (intro h9; exact absurd (h9 (by omega)) (by omega))); try with_reducible rfl)
    simp only [za, zb, zc, zd]
    refine tk (v := ?_) 5 ⟨some 35, _, _, _, _, some (4, false)⟩ rfl ?_ ?_
    case refine_2 => (rintro w9 -; (go_simp); (try omega); (try (intro h9; exact absurd (h9 (by omega)) (by omega))); try with_reducible rfl)
    simp only [za, zb, zc, zd]
    refine tk (v := ?_) 6 ⟨some 36, _, _, _, _, some (4, false)⟩ rfl ?_ ?_
    case refine_2 => (intro w9 hSw; obtain ⟨s1, s2, s3, s4⟩ := hSw; (go_simp); (try omega); (try (intro h9; exact absurd (h9 (by omega)) (by omega))); try with_reducible rfl)
    simp only [za, zb, zc, zd]
    refine tk (v := ?_) 7 ⟨some 37, _, _, _, _, some (4, false)⟩ rfl ?_ ?_
    case refine_2 => (rintro w9 -; (go_simp); (try omega); (try (intro h9; exact absurd (h9 (by omega)) (by omega))); try with_reducible rfl)
    simp only [za, zb, zc, zd]
    refine tk (v := ?_) 8 ⟨some 38, _, _, _, _, none⟩ rfl ?_ ?_
    case refine_2 => (rintro w9 -; (go_simp); (try omega); (try (intro h9; exact absurd (h9 (by omega)) (by omega))); try with_reducible rfl)
    simp only [za, zb, zc, zd]
    refine tk (v := ?_) 9 ⟨some 39, _, _, _, _, none⟩ rfl ?_ ?_
    case refine_2 => (rintro w9 -; (go_simp); (try omega); (try (intro h9; exact absurd (h9 (by omega)) (by omega))); try with_reducible rfl)
    simp only [za, zb, zc, zd]
    refine tk (v := ?_) 10 ⟨some 40, _, _, _, _, some (9, false)⟩ rfl ?_ ?_
    case refine_2 => (rintro w9 -; (go_simp); (try omega); (try (intro h9; exact absurd (h9 (by omega)) (by omega))); try with_reducible rfl)
    simp only [za, zb, zc, zd]
    refine tk (v := ?_) 11 ⟨some 41, _, _, _, _, some (9, false)⟩ rfl ?_ ?_
    case refine_2 => (intro w9 hSw; obtain ⟨s1, s2, s3, s4⟩ := hSw; (go_simp); (try omega); (try (intro h9; exact absurd (h9 (by omega)) (by omega))); try with_reducible rfl)
    simp only [za, zb, zc, zd]
    refine tk (v := ?_) 12 ⟨some 42, _, _, _, _, some (9, false)⟩ rfl ?_ ?_
    case refine_2 => (rintro w9 -; (go_simp); (try omega); (try (intro h9; exact absurd (h9 (by omega)) (by omega))); try with_reducible rfl)
    simp only [za, zb, zc, zd]
    refine tk (v := ?_) 13 ⟨some 43, _, _, _, _, none⟩ rfl ?_ ?_
    case refine_2 => (rintro w9 -; (go_simp); (try omega); (try (intro h9; exact absurd (h9 (by omega)) (by omega))); try with_reducible rfl)
    simp only [za, zb, zc, zd]
    refine tk (v := ?_) 14 ⟨some 44, _, _, _, _, none⟩ rfl ?_ ?_
    case refine_2 => (rintro w9 -; (go_simp); (try omega); (try (intro h9; exact absurd (h9 (by omega)) (by omega))); try with_reducible rfl)
    simp only [za, zb, zc, zd]
    refine tku 15 ⟨some 45, _, _, _, _, some (14, false)⟩ rfl ?_
    simp only [za, zb, zc, zd]
    refine tku 16 ⟨some 46, _, _, _, _, some (14, false)⟩ rfl ?_
    simp only [za, zb, zc, zd]
    refine tku 17 ⟨some 47, _, _, _, _, some (14, false)⟩ rfl ?_
    simp only [za, zb, zc, zd]
    refine tku 18 ⟨some 48, _, _, _, _, some (17, true)⟩ rfl ?_
    simp only [za, zb, zc, zd]
    refine tku 19 ⟨some 49, _, _, _, _, some (17, true)⟩ rfl ?_
    simp only [za, zb, zc, zd]
    refine tku 20 ⟨some 50, _, _, _, _, some (17, true)⟩ rfl ?_
    simp only [za, zb, zc, zd]
    refine tku 21 ⟨some 51, _, _, _, _, some (17, true)⟩ rfl ?_
    simp only [za, zb, zc, zd]
    refine tku 22 ⟨some 52, _, _, _, _, some (17, true)⟩ rfl ?_
    simp only [za, zb, zc, zd]
    refine tku 23 ⟨some 53, _, _, _, _, some (17, true)⟩ rfl ?_
    simp only [za, zb, zc, zd]
    refine tku 24 ⟨some 54, _, _, _, _, some (17, true)⟩ rfl ?_
    simp only [za, zb, zc, zd]
    refine tku 25 ⟨some 55, _, _, _, _, some (17, true)⟩ rfl ?_
    simp only [za, zb, zc, zd]
    refine tku 26 ⟨some 56, _, _, _, _, some (17, true)⟩ rfl ?_
    simp only [za, zb, zc, zd]
    refine tku 27 ⟨some 57, _, _, _, _, some (17, true)⟩ rfl ?_
    simp only [za, zb, zc, zd]
    refine tku 28 ⟨some 58, _, _, _, _, some (14, false)⟩ rfl ?_
    simp only [za, zb, zc, zd]
    refine tk (v := ?_) 29 ⟨some 59, _, _, _, _, none⟩ rfl ?_ ?_
    case refine_2 => (rintro w9 -; (go_simp); (try omega); (try (intro h9; exact absurd (h9 (by omega)) (by omega))); try with_reducible rfl)
    simp only [za, zb, zc, zd]
    refine wpAnyH_done (by kernel_rfl) ?_ _
    go_wp2_with fail
    exact bodyPost_ret (v := .bool false) (by simp [results, Tryz.results31, go_sem]) rfl ⟨ret_b9 (hno ⟨j, hjn, HNO⟩).symm, HBW⟩
   have hwj : IntKind.i64.wrap ((j : Int) - 1) = (j : Int) - 1 := by rw [IntKind.wrap_i64]; omega
   by_cases hj0 : j = 0
   ·skip
    have HOK2 : Hid (∀ i, i < j + 1 → OkTr L i) := okMore HOK.out ⟨x, hx, hO, by omega, by omega, .inl hj0⟩
    refine wp_region_held_drew (S := (fun W : World => W.cell? ⟨wr.heap.size, 0, none⟩ = some (vi ki x.at_) ∧ W.cell? ⟨wr.heap.size, 1, none⟩ = some (vi ki x.off) ∧ W.cell? ⟨w.heap.size, 5, none⟩ = some (.slice (some ⟨g, o, none⟩) n c) ∧ (0 < j → W.cell? ⟨g, o + (j - 1) * 4, none⟩ = some (vi ki q)))) (by kernel_rfl) (by simpa [go_sem] using HS6.out) (fun hHeld => ?_)
    refine tk (v := ?_) 0 ⟨some 30, _, _, _, _, none⟩ rfl ?_ ?_
    case refine_2 => (rintro w9 -; (go_simp); (try omega); (try (intro h9; exact absurd (h9 (by omega)) (by omega))); try with_reducible rfl)
    simp only [za, zb, zc, zd]
    refine tk (v := ?_) 1 ⟨some 31, _, _, _, _, none⟩ rfl ?_ ?_
    case refine_2 => (intro w9 hSw; obtain ⟨s1, s2, s3, s4⟩ := hSw; (go_simp); (try omega); (try (intro h9; exact absurd (h9 (by omega)) (by omega))); try with_reducible rfl)
    simp only [za, zb, zc, zd]
    refine rd 2 ⟨some 32, _, _, _, _, none⟩ rfl (fun K hK => ?_)
    go_simp
    refine (isOff_any _ _).mono ?_
    rintro e v1 ⟨rfl, hv1⟩
    obtain rfl := hv1.symm
    rw [hO]
    refine hK.out _ _ hHeld (fun hHeld => ?_)
    clear hK K
    refine tk (v := ?_) 3 ⟨some 33, _, _, _, _, none⟩ rfl ?_ ?_
    case refine_2 => (rintro w9 -; (go_simp); (try omega); (try (intro h9; exact absurd (h9 (by omega)) (by omega))); try with_reducible rfl)
    simp only [za, zb, zc, zd]
    refine tk (v := ?_) 4 ⟨some 34, _, _, _, _, none⟩ rfl ?_ ?_
    case refine_2 => (rintro w9 -; (go_simp); (try omega); (try (intro h9; exact absurd (h9 (by omega)) (by omega))); try with_reducible rfl)
    simp only [za, zb, zc, zd]
    refine tk (v := ?_) 5 ⟨some 35, _, _, _, _, some (4, false)⟩ rfl ?_ ?_
    case refine_2 => (rintro w9 -; (go_simp); (try omega); (try (intro h9; exact absurd (h9 (by omega)) (by omega))); try with_reducible rfl)
    simp only [za, zb, zc, zd]
    refine tk (v := ?_) 6 ⟨some 36, _, _, _, _, some (4, false)⟩ rfl ?_ ?_
    case refine_2 => (intro w9 hSw; obtain ⟨s1, s2, s3, s4⟩ := hSw; (go_simp); (try omega); (try (intro h9; exact absurd (h9 (by omega)) (by omega))); try with_reducible rfl)
    simp only [za, zb, zc, zd]
    refine tk (v := ?_) 7 ⟨some 37, _, _, _, _, some (4, false)⟩ rfl ?_ ?_
    case refine_2 => (rintro w9 -; (go_simp); (try omega); (try (intro h9; exact absurd (h9 (by omega)) (by omega))); try with_reducible rfl)
    simp only [za, zb, zc, zd]
    refine tk (v := ?_) 8 ⟨some 38, _, _, _, _, none⟩ rfl ?_ ?_
    case refine_2 => (rintro w9 -; (go_simp); (try omega); (try (intro h9; exact absurd (h9 (by omega)) (by omega))); try with_reducible rfl)
    simp only [za, zb, zc, zd]
    refine tk (v := ?_) 9 ⟨some 39, _, _, _, _, none⟩ rfl ?_ ?_
    case refine_2 => (rintro w9 -; (go_simp); (try omega); (try (intro h9; exact absurd (h9 (by omega)) (by omega))); try with_reducible rfl)
    simp only [za, zb, zc, zd]
    refine tk (v := ?_) 10 ⟨some 40, _, _, _, _, some (9, false)⟩ rfl ?_ ?_
    case refine_2 => (rintro w9 -; (go_simp); (try omega); (try (intro h9; exact absurd (h9 (by omega)) (by omega))); try with_reducible rfl)
    simp only [za, zb, zc, zd]
    refine tk (v := ?_) 11 ⟨some 41, _, _, _, _, some (9, false)⟩ rfl ?_ ?_
    case refine_2 => (intro w9 hSw; obtain ⟨s1, s2, s3, s4⟩ := hSw; (go_simp); (try omega); (try (intro h9; exact absurd (h9 (by omega)) (by omega))); try with_reducible rfl)
    simp only [za, zb, zc, zd]
    refine tk (v := ?_) 12 ⟨some 42, _, _, _, _, some (9, false)⟩ rfl ?_ ?_
    case refine_2 => (rintro w9 -; (go_simp); (try omega); (try (intro h9; exact absurd (h9 (by omega)) (by omega))); try with_reducible rfl)
    simp only [za, zb, zc, zd]
    refine tk (v := ?_) 13 ⟨some 43, _, _, _, _, none⟩ rfl ?_ ?_
    case refine_2 => (rintro w9 -; (go_simp); (try omega); (try (intro h9; exact absurd (h9 (by omega)) (by omega))); try with_reducible rfl)
    simp only [za, zb, zc, zd]
    refine tk (v := ?_) 14 ⟨some 44, _, _, _, _, none⟩ rfl ?_ ?_
    case refine_2 => (rintro w9 -; (go_simp); (try omega); (try (intro h9; exact absurd (h9 (by omega)) (by omega))); try with_reducible rfl)
    simp only [za, zb, zc, zd]
    refine tk (v := ?_) 15 ⟨some 45, _, _, _, _, some (14, false)⟩ rfl ?_ ?_
    case refine_2 => (rintro w9 -; (go_simp); (try omega); (try (intro h9; exact absurd (h9 (by omega)) (by omega))); try with_reducible rfl)
    simp only [za, zb, zc, zd]
    refine tk (v := ?_) 16 ⟨some 46, _, _, _, _, some (14, false)⟩ rfl ?_ ?_
    case refine_2 => (rintro w9 -; (go_simp); (try omega); (try (intro h9; exact absurd (h9 (by omega)) (by omega))); try with_reducible rfl)
    simp only [za, zb, zc, zd]
    refine tk (v := ?_) 17 ⟨some 47, _, _, _, _, some (14, false)⟩ rfl ?_ ?_
    case refine_2 => (rintro w9 -; (go_simp); (try omega); (try (intro h9; exact absurd (h9 (by omega)) (by omega))); try with_reducible rfl)
    simp only [za, zb, zc, zd]
    refine tku 18 ⟨some 48, _, _, _, _, some (17, true)⟩ rfl ?_
    simp only [za, zb, zc, zd]
    refine tku 19 ⟨some 49, _, _, _, _, some (17, true)⟩ rfl ?_
    simp only [za, zb, zc, zd]
    refine tku 20 ⟨some 50, _, _, _, _, some (17, true)⟩ rfl ?_
    simp only [za, zb, zc, zd]
    refine tku 21 ⟨some 51, _, _, _, _, some (17, true)⟩ rfl ?_
    simp only [za, zb, zc, zd]
    refine tku 22 ⟨some 52, _, _, _, _, some (17, true)⟩ rfl ?_
    simp only [za, zb, zc, zd]
    refine tku 23 ⟨some 53, _, _, _, _, some (17, true)⟩ rfl ?_
    simp only [za, zb, zc, zd]
    refine tku 24 ⟨some 54, _, _, _, _, some (17, true)⟩ rfl ?_
    simp only [za, zb, zc, zd]
    refine tku 25 ⟨some 55, _, _, _, _, some (17, true)⟩ rfl ?_
    simp only [za, zb, zc, zd]
    refine tku 26 ⟨some 56, _, _, _, _, some (17, true)⟩ rfl ?_
    simp only [za, zb, zc, zd]
    refine tku 27 ⟨some 57, _, _, _, _, some (17, true)⟩ rfl ?_
    simp only [za, zb, zc, zd]
    refine tk (v := ?_) 28 ⟨some 58, _, _, _, _, some (14, false)⟩ rfl ?_ ?_
    case refine_2 => (rintro w9 -; (go_simp); (try omega); (try (intro h9; exact absurd (h9 (by omega)) (by omega))); try with_reducible rfl)
    simp only [za, zb, zc, zd]
    refine tk (v := ?_) 29 ⟨some 59, _, _, _, _, none⟩ rfl ?_ ?_
    case refine_2 => (rintro w9 -; (go_simp); (try omega); (try (intro h9; exact absurd (h9 (by omega)) (by omega))); try with_reducible rfl)
    simp only [za, zb, zc, zd]
    refine wpAnyH_done (by kernel_rfl) ?_ _
    go_wp2_with fail
    exact ⟨⟨j + 1, by first | (simp; done) | (simp; omega), by omega, HXW, HBW, HOK2⟩, by simp [intOf]; omega⟩
   have hj0 : 0 < j := by omega
   obtain ⟨hp, _⟩ := HP0.out hj0
   by_cases hle : x.at_ ≤ q
   ·skip
    have HNO : ¬ OkTr L j := fun ⟨x', e', k1, k2, k3, k4⟩ => by (rw [hx] at e'; cases e'; rcases k4 with k4 | ⟨p', e2, k4⟩; (omega); (rw [hp] at e2; cases e2; omega))
    refine wp_region_held_drew (S := (fun W : World => W.cell? ⟨wr.heap.size, 0, none⟩ = some (vi ki x.at_) ∧ W.cell? ⟨wr.heap.size, 1, none⟩ = some (vi ki x.off) ∧ W.cell? ⟨w.heap.size, 5, none⟩ = some (.slice (some ⟨g, o, none⟩) n c) ∧ (0 < j → W.cell? ⟨g, o + (j - 1) * 4, none⟩ = some (vi ki q)))) (by kernel_rfl) (by simpa [go_sem] using HS6.out) (fun hHeld => ?_)
    refine tk (v := ?_) 0 ⟨some 30, _, _, _, _, none⟩ rfl ?_ ?_
    case refine_2 => (rintro w9 -; (go_simp); (try omega); (try (intro h9; exact absurd (h9 (by omega)) (by omega))); try with_reducible rfl)
    simp only [za, zb, zc, zd]
    refine tk (v := ?_) 1 ⟨some 31, _, _, _, _, none⟩ rfl ?_ ?_
    case refine_2 => (intro w9 hSw; obtain ⟨s1, s2, s3, s4⟩ := hSw; have s5 := s4 hj0; clear s4; (go_simp); (try omega); (try (intro h9; exact absurd (h9 (by omega)) (by omega))); try with_reducible rfl)
    simp only [za, zb, zc, zd]
    refine rd 2 ⟨some 32, _, _, _, _, none⟩ rfl (fun K hK => ?_)
    go_simp
    refine (isOff_any _ _).mono ?_
    rintro e v1 ⟨rfl, hv1⟩
    obtain rfl := hv1.symm
    rw [hO]
    refine hK.out _ _ hHeld (fun hHeld => ?_)
    clear hK K
    refine tk (v := ?_) 3 ⟨some 33, _, _, _, _, none⟩ rfl ?_ ?_
    case refine_2 => (rintro w9 -; (go_simp); (try omega); (try (intro h9; exact absurd (h9 (by omega)) (by omega))); try with_reducible rfl)
    simp only [za, zb, zc, zd]
    refine tk (v := ?_) 4 ⟨some 34, _, _, _, _, none⟩ rfl ?_ ?_
    case refine_2 => (rintro w9 -; (go_simp); (try omega); (try (intro h9; exact absurd (h9 (by omega)) (by omega))); try with_reducible rfl)
    simp only [za, zb, zc, zd]
    refine tk (v := ?_) 5 ⟨some 35, _, _, _, _, some (4, false)⟩ rfl ?_ ?_
    case refine_2 => (rintro w9 -; (go_simp); (try omega); (try (intro h9; exact absurd (h9 (by omega)) (by omega))); try with_reducible rfl)
    simp only [za, zb, zc, zd]
    refine tk (v := ?_) 6 ⟨some 36, _, _, _, _, some (4, false)⟩ rfl ?_ ?_
    case refine_2 => (intro w9 hSw; obtain ⟨s1, s2, s3, s4⟩ := hSw; have s5 := s4 hj0; clear s4; (go_simp); (try omega); (try (intro h9; exact absurd (h9 (by omega)) (by omega))); try with_reducible rfl)
    simp only [za, zb, zc, zd]
    refine tk (v := ?_) 7 ⟨some 37, _, _, _, _, some (4, false)⟩ rfl ?_ ?_
    case refine_2 => (rintro w9 -; (go_simp); (try omega); (try (intro h9; exact absurd (h9 (by omega)) (by omega))); try with_reducible rfl)
    simp only [za, zb, zc, zd]
    refine tk (v := ?_) 8 ⟨some 38, _, _, _, _, none⟩ rfl ?_ ?_
    case refine_2 => (rintro w9 -; (go_simp); (try omega); (try (intro h9; exact absurd (h9 (by omega)) (by omega))); try with_reducible rfl)
    simp only [za, zb, zc, zd]
    refine tk (v := ?_) 9 ⟨some 39, _, _, _, _, none⟩ rfl ?_ ?_
    case refine_2 => (rintro w9 -; (go_simp); (try omega); (try (intro h9; exact absurd (h9 (by omega)) (by omega))); try with_reducible rfl)
    simp only [za, zb, zc, zd]
    refine tk (v := ?_) 10 ⟨some 40, _, _, _, _, some (9, false)⟩ rfl ?_ ?_
    case refine_2 => (rintro w9 -; (go_simp); (try omega); (try (intro h9; exact absurd (h9 (by omega)) (by omega))); try with_reducible rfl)
    simp only [za, zb, zc, zd]
    refine tk (v := ?_) 11 ⟨some 41, _, _, _, _, some (9, false)⟩ rfl ?_ ?_
    case refine_2 => (intro w9 hSw; obtain ⟨s1, s2, s3, s4⟩ := hSw; have s5 := s4 hj0; clear s4; (go_simp); (try omega); (try (intro h9; exact absurd (h9 (by omega)) (by omega))); try with_reducible rfl)
    simp only [za, zb, zc, zd]
    refine tk (v := ?_) 12 ⟨some 42, _, _, _, _, some (9, false)⟩ rfl ?_ ?_
    case refine_2 => (rintro w9 -; (go_simp); (try omega); (try (intro h9; exact absurd (h9 (by omega)) (by omega))); try with_reducible rfl)
    simp only [za, zb, zc, zd]
    refine tk (v := ?_) 13 ⟨some 43, _, _, _, _, none⟩ rfl ?_ ?_
    case refine_2 => (rintro w9 -; (go_simp); (try omega); (try (intro h9; exact absurd (h9 (by omega)) (by omega))); try with_reducible rfl)
    simp only [za, zb, zc, zd]
    refine tk (v := ?_) 14 ⟨some 44, _, _, _, _, none⟩ rfl ?_ ?_
    case refine_2 => (rintro w9 -; (go_simp); (try omega); (try (intro h9; exact absurd (h9 (by omega)) (by omega))); try with_reducible rfl)
    simp only [za, zb, zc, zd]
    refine tk (v := ?_) 15 ⟨some 45, _, _, _, _, some (14, false)⟩ rfl ?_ ?_
    case refine_2 => (rintro w9 -; (go_simp); (try omega); (try (intro h9; exact absurd (h9 (by omega)) (by omega))); try with_reducible rfl)
    simp only [za, zb, zc, zd]
    refine tk (v := ?_) 16 ⟨some 46, _, _, _, _, some (14, false)⟩ rfl ?_ ?_
    case refine_2 => (rintro w9 -; (go_simp); (try omega); (try (intro h9; exact absurd (h9 (by omega)) (by omega))); try with_reducible rfl)
    simp only [za, zb, zc, zd]
    refine tk (v := ?_) 17 ⟨some 47, _, _, _, _, some (14, false)⟩ rfl ?_ ?_
    case refine_2 => (rintro w9 -; (go_simp); (try omega); (try (intro h9; exact absurd (h9 (by omega)) (by omega))); try with_reducible rfl)
    simp only [za, zb, zc, zd]
    refine tk (v := ?_) 18 ⟨some 48, _, _, _, _, some (17, true)⟩ rfl ?_ ?_
    case refine_2 => (rintro w9 -; (go_simp); (try omega); (try (intro h9; exact absurd (h9 (by omega)) (by omega))); try with_reducible rfl)
    simp only [za, zb, zc, zd]
    refine tk (v := ?_) 19 ⟨some 49, _, _, _, _, some (17, true)⟩ rfl ?_ ?_
    case refine_2 => (intro w9 hSw; obtain ⟨s1, s2, s3, s4⟩ := hSw; have s5 := s4 hj0; clear s4; (go_simp); (try omega); (try (intro h9; exact absurd (h9 (by omega)) (by omega))); try with_reducible rfl)
    simp only [za, zb, zc, zd]
    refine tk (v := ?_) 20 ⟨some 50, _, _, _, _, some (17, true)⟩ rfl ?_ ?_
    case refine_2 => (rintro w9 -; (go_simp); (try omega); (try (intro h9; exact absurd (h9 (by omega)) (by omega))); try with_reducible rfl)
    simp only [za, zb, zc, zd]
    refine tk (v := ?_) 21 ⟨some 51, _, _, _, _, some (17, true)⟩ rfl ?_ ?_
    case refine_2 => (intro w9 hSw; obtain ⟨s1, s2, s3, s4⟩ := hSw; have s5 := s4 hj0; clear s4; (go_simp); (try omega); (try (intro h9; exact absurd (h9 (by omega)) (by omega))); try with_reducible rfl)
    simp only [za, zb, zc, zd]
    refine tk (v := ?_) 22 ⟨some 52, _, _, _, _, some (17, true)⟩ rfl ?_ ?_
    case refine_2 => (rintro w9 -; (go_simp); (try omega); (try (intro h9; exact absurd (h9 (by omega)) (by omega))); try with_reducible rfl)
    simp only [za, zb, zc, zd]
    refine tk (v := ?_) 23 ⟨some 53, _, _, _, _, some (17, true)⟩ rfl ?_ ?_
    case refine_2 => (rintro w9 -; (go_simp); (try omega); (try (intro h9; exact absurd (h9 (by omega)) (by omega))); try with_reducible rfl)
    simp only [za, zb, zc, zd]
    refine wpAnyH_take (i := 24) (v := .pointer (some ⟨g, o + (j - 1) * 4, none⟩)) (oi := ⟨some 54, _, _, _, _, some (17, true)⟩) rfl (by kernel_rfl) (by kernel_rfl) (by kernel_rfl) (fun _ _ _ h => h) (Or.inl ⟨by kernel_rfl, ?_⟩) (by assumption) ?_
    case refine_1 => (rintro w9 -; (go_simp); (try omega); (try (intro h9; exact absurd (h9 (by omega)) (by omega))); try with_reducible rfl)
    simp only [za, zb, zc, zd]
    refine tk (v := ?_) 25 ⟨some 55, _, _, _, _, some (17, true)⟩ rfl ?_ ?_
    case refine_2 => (rintro w9 -; (go_simp); (try omega); (try (intro h9; exact absurd (h9 (by omega)) (by omega))); try with_reducible rfl)
    simp only [za, zb, zc, zd]
    refine tk (v := ?_) 26 ⟨some 56, _, _, _, _, some (17, true)⟩ rfl ?_ ?_
    case refine_2 => (intro w9 hSw; obtain ⟨s1, s2, s3, s4⟩ := hSw; have s5 := s4 hj0; clear s4; (go_simp); (try omega); (try (intro h9; exact absurd (h9 (by omega)) (by omega))); try with_reducible rfl)
    simp only [za, zb, zc, zd]
    refine tk (v := ?_) 27 ⟨some 57, _, _, _, _, some (17, true)⟩ rfl ?_ ?_
    case refine_2 => (rintro w9 -; (go_simp); (try omega); (try (intro h9; exact absurd (h9 (by omega)) (by omega))); try with_reducible rfl)
    simp only [za, zb, zc, zd]
    refine tk (v := ?_) 28 ⟨some 58, _, _, _, _, some (14, false)⟩ rfl ?_ ?_
    case refine_2 => (rintro w9 -; (go_simp); (try omega); (try (intro h9; exact absurd (h9 (by omega)) (by omega))); try with_reducible rfl)
    simp only [za, zb, zc, zd]
    refine tk (v := ?_) 29 ⟨some 59, _, _, _, _, none⟩ rfl ?_ ?_
    case refine_2 => (rintro w9 -; (go_simp); (try omega); (try (intro h9; exact absurd (h9 (by omega)) (by omega))); try with_reducible rfl)
    simp only [za, zb, zc, zd]
    refine wpAnyH_done (by kernel_rfl) ?_ _
    go_wp2_with fail
    exact bodyPost_ret (v := .bool false) (by simp [results, Tryz.results31, go_sem]) rfl ⟨ret_b9 (hno ⟨j, hjn, HNO⟩).symm, HBW⟩
   ·skip
    have HOK2 : Hid (∀ i, i < j + 1 → OkTr L i) := okMore HOK.out ⟨x, hx, hO, by omega, by omega, .inr ⟨p, hp, by omega⟩⟩
    refine wp_region_held_drew (S := (fun W : World => W.cell? ⟨wr.heap.size, 0, none⟩ = some (vi ki x.at_) ∧ W.cell? ⟨wr.heap.size, 1, none⟩ = some (vi ki x.off) ∧ W.cell? ⟨w.heap.size, 5, none⟩ = some (.slice (some ⟨g, o, none⟩) n c) ∧ (0 < j → W.cell? ⟨g, o + (j - 1) * 4, none⟩ = some (vi ki q)))) (by kernel_rfl) (by simpa [go_sem] using HS6.out) (fun hHeld => ?_)
    refine tk (v := ?_) 0 ⟨some 30, _, _, _, _, none⟩ rfl ?_ ?_
    case refine_2 => (rintro w9 -; (go_simp); (try omega); (try (intro h9; exact absurd (h9 (by omega)) (by omega))); try with_reducible rfl)
    simp only [za, zb, zc, zd]
    refine tk (v := ?_) 1 ⟨some 31, _, _, _, _, none⟩ rfl ?_ ?_
    case refine_2 => (intro w9 hSw; obtain ⟨s1, s2, s3, s4⟩ := hSw; have s5 := s4 hj0; clear s4; (go_simp); (try omega); (try (intro h9; exact absurd (h9 (by omega)) (by omega))); try with_reducible rfl)
    simp only [za, zb, zc, zd]
    refine rd 2 ⟨some 32, _, _, _, _, none⟩ rfl (fun K hK => ?_)
    go_simp
    refine (isOff_any _ _).mono ?_
    rintro e v1 ⟨rfl, hv1⟩
    obtain rfl := hv1.symm
    rw [hO]
    refine hK.out _ _ hHeld (fun hHeld => ?_)
    clear hK K
    refine tk (v := ?_) 3 ⟨some 33, _, _, _, _, none⟩ rfl ?_ ?_
    case refine_2 => (rintro w9 -; (go_simp); (try omega); (try (intro h9; exact absurd (h9 (by omega)) (by omega))); try with_reducible rfl)
    simp only [za, zb, zc, zd]
    refine tk (v := ?_) 4 ⟨some 34, _, _, _, _, none⟩ rfl ?_ ?_
    case refine_2 => (rintro w9 -; (go_simp); (try omega); (try (intro h9; exact absurd (h9 (by omega)) (by omega))); try with_reducible rfl)
    simp only [za, zb, zc, zd]
    refine tk (v := ?_) 5 ⟨some 35, _, _, _, _, some (4, false)⟩ rfl ?_ ?_
    case refine_2 => (rintro w9 -; (go_simp); (try omega); (try (intro h9; exact absurd (h9 (by omega)) (by omega))); try with_reducible rfl)
    simp only [za, zb, zc, zd]
    refine tk (v := ?_) 6 ⟨some 36, _, _, _, _, some (4, false)⟩ rfl ?_ ?_
    case refine_2 => (intro w9 hSw; obtain ⟨s1, s2, s3, s4⟩ := hSw; have s5 := s4 hj0; clear s4; (go_simp); (try omega); (try (intro h9; exact absurd (h9 (by omega)) (by omega))); try with_reducible rfl)
    simp only [za, zb, zc, zd]
    refine tk (v := ?_) 7 ⟨some 37, _, _, _, _, some (4, false)⟩ rfl ?_ ?_
    case refine_2 => (rintro w9 -; (go_simp); (try omega); (try (intro h9; exact absurd (h9 (by omega)) (by omega))); try with_reducible rfl)
    simp only [za, zb, zc, zd]
    refine tk (v := ?_) 8 ⟨some 38, _, _, _, _, none⟩ rfl ?_ ?_
    case refine_2 => (rintro w9 -; (go_simp); (try omega); (try (intro h9; exact absurd (h9 (by omega)) (by omega))); try with_reducible rfl)
    simp only [za, zb, zc, zd]
    refine tk (v := ?_) 9 ⟨some 39, _, _, _, _, none⟩ rfl ?_ ?_
    case refine_2 => (rintro w9 -; (go_simp); (try omega); (try (intro h9; exact absurd (h9 (by omega)) (by omega))); try with_reducible rfl)
    simp only [za, zb, zc, zd]
    refine tk (v := ?_) 10 ⟨some 40, _, _, _, _, some (9, false)⟩ rfl ?_ ?_
    case refine_2 => (rintro w9 -; (go_simp); (try omega); (try (intro h9; exact absurd (h9 (by omega)) (by omega))); try with_reducible rfl)
    simp only [za, zb, zc, zd]
    refine tk (v := ?_) 11 ⟨some 41, _, _, _, _, some (9, false)⟩ rfl ?_ ?_
    case refine_2 => (intro w9 hSw; obtain ⟨s1, s2, s3, s4⟩ := hSw; have s5 := s4 hj0; clear s4; (go_simp); (try omega); (try (intro h9; exact absurd (h9 (by omega)) (by omega))); try with_reducible rfl)
    simp only [za, zb, zc, zd]
    refine tk (v := ?_) 12 ⟨some 42, _, _, _, _, some (9, false)⟩ rfl ?_ ?_
    case refine_2 => (rintro w9 -; (go_simp); (try omega); (try (intro h9; exact absurd (h9 (by omega)) (by omega))); try with_reducible rfl)
    simp only [za, zb, zc, zd]
    refine tk (v := ?_) 13 ⟨some 43, _, _, _, _, none⟩ rfl ?_ ?_
    case refine_2 => (rintro w9 -; (go_simp); (try omega); (try (intro h9; exact absurd (h9 (by omega)) (by omega))); try with_reducible rfl)
    simp only [za, zb, zc, zd]
    refine tk (v := ?_) 14 ⟨some 44, _, _, _, _, none⟩ rfl ?_ ?_
    case refine_2 => (rintro w9 -; (go_simp); (try omega); (try (intro h9; exact absurd (h9 (by omega)) (by omega))); try with_reducible rfl)
    simp only [za, zb, zc, zd]
    refine tk (v := ?_) 15 ⟨some 45, _, _, _, _, some (14, false)⟩ rfl ?_ ?_
    case refine_2 => (rintro w9 -; (go_simp); (try omega); (try (intro h9; exact absurd (h9 (by omega)) (by omega))); try with_reducible rfl)
    simp only [za, zb, zc, zd]
    refine tk (v := ?_) 16 ⟨some 46, _, _, _, _, some (14, false)⟩ rfl ?_ ?_
    case refine_2 => (rintro w9 -; (go_simp); (try omega); (try (intro h9; exact absurd (h9 (by omega)) (by omega))); try with_reducible rfl)
    simp only [za, zb, zc, zd]
    refine tk (v := ?_) 17 ⟨some 47, _, _, _, _, some (14, false)⟩ rfl ?_ ?_
    case refine_2 => (rintro w9 -; (go_simp); (try omega); (try (intro h9; exact absurd (h9 (by omega)) (by omega))); try with_reducible rfl)
    simp only [za, zb, zc, zd]
    refine tk (v := ?_) 18 ⟨some 48, _, _, _, _, some (17, true)⟩ rfl ?_ ?_
    case refine_2 => (rintro w9 -; (go_simp); (try omega); (try (intro h9; exact absurd (h9 (by omega)) (by omega))); try with_reducible rfl)
    simp only [za, zb, zc, zd]
    refine tk (v := ?_) 19 ⟨some 49, _, _, _, _, some (17, true)⟩ rfl ?_ ?_
    case refine_2 => (intro w9 hSw; obtain ⟨s1, s2, s3, s4⟩ := hSw; have s5 := s4 hj0; clear s4; (go_simp); (try omega); (try (intro h9; exact absurd (h9 (by omega)) (by omega))); try with_reducible rfl)
    simp only [za, zb, zc, zd]
    refine tk (v := ?_) 20 ⟨some 50, _, _, _, _, some (17, true)⟩ rfl ?_ ?_
    case refine_2 => (rintro w9 -; (go_simp); (try omega); (try (intro h9; exact absurd (h9 (by omega)) (by omega))); try with_reducible rfl)
    simp only [za, zb, zc, zd]
    refine tk (v := ?_) 21 ⟨some 51, _, _, _, _, some (17, true)⟩ rfl ?_ ?_
    case refine_2 => (intro w9 hSw; obtain ⟨s1, s2, s3, s4⟩ := hSw; have s5 := s4 hj0; clear s4; (go_simp); (try omega); (try (intro h9; exact absurd (h9 (by omega)) (by omega))); try with_reducible rfl)
    simp only [za, zb, zc, zd]
    refine tk (v := ?_) 22 ⟨some 52, _, _, _, _, some (17, true)⟩ rfl ?_ ?_
    case refine_2 => (rintro w9 -; (go_simp); (try omega); (try (intro h9; exact absurd (h9 (by omega)) (by omega))); try with_reducible rfl)
    simp only [za, zb, zc, zd]
    refine tk (v := ?_) 23 ⟨some 53, _, _, _, _, some (17, true)⟩ rfl ?_ ?_
    case refine_2 => (rintro w9 -; (go_simp); (try omega); (try (intro h9; exact absurd (h9 (by omega)) (by omega))); try with_reducible rfl)
    simp only [za, zb, zc, zd]
    refine wpAnyH_take (i := 24) (v := .pointer (some ⟨g, o + (j - 1) * 4, none⟩)) (oi := ⟨some 54, _, _, _, _, some (17, true)⟩) rfl (by kernel_rfl) (by kernel_rfl) (by kernel_rfl) (fun _ _ _ h => h) (Or.inl ⟨by kernel_rfl, ?_⟩) (by assumption) ?_
    case refine_1 => (rintro w9 -; (go_simp); (try omega); (try (intro h9; exact absurd (h9 (by omega)) (by omega))); try with_reducible rfl)
    simp only [za, zb, zc, zd]
    refine tk (v := ?_) 25 ⟨some 55, _, _, _, _, some (17, true)⟩ rfl ?_ ?_
    case refine_2 => (rintro w9 -; (go_simp); (try omega); (try (intro h9; exact absurd (h9 (by omega)) (by omega))); try with_reducible rfl)
    simp only [za, zb, zc, zd]
    refine tk (v := ?_) 26 ⟨some 56, _, _, _, _, some (17, true)⟩ rfl ?_ ?_
    case refine_2 => (intro w9 hSw; obtain ⟨s1, s2, s3, s4⟩ := hSw; have s5 := s4 hj0; clear s4; (go_simp); (try omega); (try (intro h9; exact absurd (h9 (by omega)) (by omega))); try with_reducible rfl)
    simp only [za, zb, zc, zd]
    refine tk (v := ?_) 27 ⟨some 57, _, _, _, _, some (17, true)⟩ rfl ?_ ?_
    case refine_2 => (rintro w9 -; (go_simp); (try omega); (try (intro h9; exact absurd (h9 (by omega)) (by omega))); try with_reducible rfl)
    simp only [za, zb, zc, zd]
    refine tk (v := ?_) 28 ⟨some 58, _, _, _, _, some (14, false)⟩ rfl ?_ ?_
    case refine_2 => (rintro w9 -; (go_simp); (try omega); (try (intro h9; exact absurd (h9 (by omega)) (by omega))); try with_reducible rfl)
    simp only [za, zb, zc, zd]
    refine tk (v := ?_) 29 ⟨some 59, _, _, _, _, none⟩ rfl ?_ ?_
    case refine_2 => (rintro w9 -; (go_simp); (try omega); (try (intro h9; exact absurd (h9 (by omega)) (by omega))); try with_reducible rfl)
    simp only [za, zb, zc, zd]
    refine wpAnyH_done (by kernel_rfl) ?_ _
    go_wp2_with fail
    exact ⟨⟨j + 1, by first | (simp; done) | (simp; omega), by omega, HXW, HBW, HOK2⟩, by simp [intOf]; omega⟩
  ·have hb := hyes (fun i hi => HOK.out i (by omega))
   have HR : Hid (wr.rangeAt w.heap.size 6 FL) := fun j v hv => (HX.out.2 (6 + j) v ((tbF_foot j).trans hv)).1
   have HEQ : Hid (∀ W : World, (Op.equalIn 10000 42 (.agg FL.toArray) (.agg #[.bool false, vi ki 0, vi ki 0, vi ki 0, vi ki 0, vi ki 0, vi ki 0, vi ki 0, .int .u8 0, vi ki 0, .string ⟨#[]⟩, vi ki 0, vi ki 0, vi ki 0, vi ki 0, vi ki 0, .int .u8 0, vi ki 0, .string ⟨#[]⟩])).run Tryz.prog W = .ok z W) := hEQ
   clear hyes hno HOK hEQ
   cases z
   ·have hEQ := HEQ.out
    have HRF : Hid (Calls Tryz.prog 75 #[.agg UA] wr fun e w' => e = zr (.bool r) ∧ Below wr.heap.size wr w') := RF.out rfl wr HB.out
    clear HEQ RF
    go_wp2_with (first | (refine wpList_load_mid rfl 42 _ rfl w.heap.size 6 rfl FL _ HR.out Tryz.underlying42 rfl (by rw [hF]; kernel_rfl) ?_) | (refine load_mid_on (by kernel_rfl) 44 _ rfl w.heap.size 0 rfl (tbF nm f (.slice ao n c) FL) _ HX.out.all Tryz.underlying44 rfl (by rw [tbF_len hF]; kernel_rfl) ?_; rw [hUA]) | fail)
    refine HRF.out.mono ?_
    rintro e w5 ⟨rfl, hb5⟩
    have HB5 : Hid (Below w.heap.size w w5) := HB.out.trans (hb5.mono HB.out.size)
    clear hb5
    go_wp2_with fail
    go_ret
    exact ⟨ret_b9 (by rw [hb]; rfl), HB5.out⟩
   ·have hEQ := HEQ.out
    clear HEQ RF
    go_wp2_with (first | (refine wpList_load_mid rfl 42 _ rfl w.heap.size 6 rfl FL _ HR.out Tryz.underlying42 rfl (by rw [hF]; kernel_rfl) ?_) | fail)
    go_ret
    exact ⟨ret_b9 (by rw [hb]; rfl), HB.out⟩
end Go.Proofs.YtklehbmghjcmaaaGreatDoor
