/- show.inWords: an interval's numbers with their units, and its time. -/
import Derived.Test.YtmohhbgmbicklaaGreatDoorShQq
import Derived.Laws.AppendOwn
import Derived.Laws.OwnMore
namespace Go.Proofs.YtmohhbgmbicklaaGreatDoor
open Go.RowKit
set_option linter.unusedVariables false

theorem own_keep {w w1 : World} {base : Nat} {e : TypeId} {size : Nat} {v : Value} {n : Nat} {xs : List Value} (h : w.ownsRow base e size v n xs) (hb : Below w.heap.size w w1) : w1.ownsRow base e size v n xs := by
  refine ⟨h.1, ?_⟩
  rcases h.2 with h2 | ⟨g, cap, cur, e1, h3, h4, h5⟩
  · exact .inl h2
  · exact .inr ⟨g, cap, cur, e1, h3, (hb.block g (Array.getElem?_eq_some_iff.1 h4).1).trans h4, h5⟩
/-- a row of one's own grows: what lies below its base stays. -/
theorem bs_grown {w W W' : World} {l : List (Nat × List Value)} {v : Value} (h : BS w l W) (hl : ∀ x ∈ l, some x.1 ≠ v.ownBlock) (hw : ∀ k, v.ownBlock = some k → w.heap.size ≤ k) (hg : W.grownBy W' v.ownBlock) : BS w l W' := by
  refine ⟨⟨hg.os.trans h.1.os, hg.tape.trans h.1.tape, hg.output.trans h.1.output, Nat.le_trans h.1.size hg.size, fun k hk => (hg.block k (Nat.lt_of_lt_of_le hk h.1.size) (fun e => by have := hw k e.symm; omega)).trans (h.1.block k hk)⟩, fun x hx => ⟨(h.2 x hx).1, ?_⟩⟩
  have hx1 := (h.2 x hx).2
  have hk := hg.block x.1 hx1.1 (hl x hx)
  exact ⟨Nat.lt_of_lt_of_le hx1.1 hg.size, fun i u e => ⟨(World.cell?_of_block (w := W) hk).trans (hx1.2 i u e).1, (World.frozen?_of_block (w := W) hk).trans (hx1.2 i u e).2⟩⟩
theorem bx_cells {w : World} {b : Nat} {cs : List Value} (h : Bx w b cs) : ∀ j u, cs[j]? = some u → w.cell? ((⟨b, 0, none⟩ : Addr).add j) = some u := fun j t ht => by
  have := h.c j ht
  unfold Addr.add
  split
  · rename_i h; subst h; exact this
  · simpa using this
theorem own_held {w V : World} {l : List (Nat × List Value)} {o : Obj} {base n : Nat} {v : Value} {xs : List Value} (h : BS w l (V.alloc o)) (ho : Hid (V.ownsRow base 9 1 v n xs)) : Hid ((V.alloc o).ownsRow base 9 1 v n xs) := ho.out.alloc o
theorem infoS9 : (Tryz.prog.info? 9).map (fun i => (i.zero, i.size, i.bytes)) = some (some (.string ByteArray.empty), 1, 16) := by kernel_rfl
def cS (L : List ByteArray) : List Value := L.map Value.string
theorem cS_app (L : List ByteArray) (x : ByteArray) : cS (L ++ [x]) = cS L ++ [.string x] := by simp [cS]
theorem own_txt {w : World} {base c : Nat} {ao : Option Addr} {n : Nat} {L : List ByteArray} (h : w.ownsRow base 9 1 (.slice ao n c) n (cS L)) (hn : L.length = n) (h0 : 0 < n) : ∃ a, ao = some a ∧ n ≤ c ∧ ∀ j t, L[j]? = some t → w.cell? (a.add j) = some (.string t) := by
  rcases h.2 with ⟨e, z⟩ | ⟨g, cap, cur, e, h3, h4, h5, h6⟩
  · omega
  · obtain ⟨rfl, _, rfl⟩ : ao = some ⟨g, 0, none⟩ ∧ n = n ∧ c = cap := by simpa using e
    exact ⟨_, rfl, h5, fun j t ht => h.cells rfl j _ (by simp [cS, ht])⟩
/-- one number with its unit. -/
def unB (n : Int) (l : ByteArray) (last : Int) : ByteArray := trn last n ++ dg n ++ ⟨#[32]⟩ ++ l ++ mny n
theorem trn_size (l n : Int) : (trn l n).size ≤ 1 := by unfold trn; split <;> decide
theorem mny_size (n : Int) : (mny n).size ≤ 1 := by unfold mny; split <;> decide
theorem ba_size (a b : ByteArray) : (a ++ b).size = a.size + b.size := ByteArray.size_append
theorem unB_size (n : Int) (l : ByteArray) (last : Int) (hl : l.size ≤ 4) (h0 : -9223372036854775808 ≤ n) (h1 : n ≤ 9223372036854775807) : (unB n l last).size ≤ 30 := by
  have := trn_size last n
  have := dg_size n h0 h1
  have := mny_size n
  have e : (⟨#[32]⟩ : ByteArray).size = 1 := rfl
  unfold unB
  rw [ba_size, ba_size, ba_size, ba_size]
  omega
theorem szL_snoc (L : List ByteArray) (x : ByteArray) : szL (L ++ [x]) = szL L + x.size := by
  induction L with
  | nil => simp [szL]
  | cons a l ih => simp only [List.cons_append, szL, ih]; omega
def stW (n : Int) (l : ByteArray) (s : List ByteArray × Int) : List ByteArray × Int := if n = 0 then s else (s.1 ++ [unB n l s.2], n)
/-- the words behind so many numbers, and the last number. -/
def stN (a b c : Int) : Nat → List ByteArray × Int
  | 0 => ([], 0)
  | 1 => stW a ⟨#[121, 101, 97, 114]⟩ ([], 0)
  | 2 => stW b ⟨#[109, 111, 110]⟩ (stW a ⟨#[121, 101, 97, 114]⟩ ([], 0))
  | _ => stW c ⟨#[100, 97, 121]⟩ (stW b ⟨#[109, 111, 110]⟩ (stW a ⟨#[121, 101, 97, 114]⟩ ([], 0)))
theorem stW_len (n : Int) (l : ByteArray) (s : List ByteArray × Int) : (stW n l s).1.length ≤ s.1.length + 1 := by unfold stW; split <;> simp
theorem stW_sz (n : Int) (l : ByteArray) (s : List ByteArray × Int) (hl : l.size ≤ 4) (h0 : -9223372036854775808 ≤ n) (h1 : n ≤ 9223372036854775807) : szL (stW n l s).1 ≤ szL s.1 + 30 := by
  unfold stW
  split
  · omega
  · simp only []; rw [szL_snoc]; have := unB_size n l s.2 hl h0 h1; omega
theorem stN_sz (a b c : Int) (a1 : -9223372036854775808 ≤ a) (a9 : a ≤ 9223372036854775807) (b1 : -9223372036854775808 ≤ b) (b9 : b ≤ 9223372036854775807) (c1 : -9223372036854775808 ≤ c) (c9 : c ≤ 9223372036854775807) : szL (stN a b c 3).1 ≤ 90 := by
  have h1 := stW_sz a ⟨#[121, 101, 97, 114]⟩ ([], 0) (by decide) a1 a9
  have h2 := stW_sz b ⟨#[109, 111, 110]⟩ (stW a ⟨#[121, 101, 97, 114]⟩ ([], 0)) (by decide) b1 b9
  have h3 := stW_sz c ⟨#[100, 97, 121]⟩ (stW b ⟨#[109, 111, 110]⟩ (stW a ⟨#[121, 101, 97, 114]⟩ ([], 0))) (by decide) c1 c9
  simp only [szL] at h1
  show szL (stW c ⟨#[100, 97, 121]⟩ (stW b ⟨#[109, 111, 110]⟩ (stW a ⟨#[121, 101, 97, 114]⟩ ([], 0)))).1 ≤ 90
  omega
theorem stN_len (a b c : Int) (i : Nat) (h : i ≤ 3) : (stN a b c i).1.length ≤ i := by
  have h1 := stW_len a ⟨#[121, 101, 97, 114]⟩ ([], 0)
  have h2 := stW_len b ⟨#[109, 111, 110]⟩ (stW a ⟨#[121, 101, 97, 114]⟩ ([], 0))
  have h3 := stW_len c ⟨#[100, 97, 121]⟩ (stW b ⟨#[109, 111, 110]⟩ (stW a ⟨#[121, 101, 97, 114]⟩ ([], 0)))
  simp at h1
  obtain rfl | rfl | rfl | rfl : i = 0 ∨ i = 1 ∨ i = 2 ∨ i = 3 := by omega
  all_goals simp only [stN]
  · simp
  all_goals omega

set_option maxRecDepth 100000 in
set_option maxHeartbeats 8000000 in
theorem iw_z (M D U a b : Int) (ha : M.tdiv 12 = a) (hb : M.tmod 12 = b) (a1 : -9223372036854775808 ≤ a) (a9 : a ≤ 9223372036854775807) (b1 : -9223372036854775808 ≤ b) (b9 : b ≤ 9223372036854775807) (D1 : -9223372036854775808 ≤ D) (D9 : D ≤ 9223372036854775807) (hU : (U != 0) = false) (HW : Hid (0 < (stN a b D 3).1.length))
    (w : World) (hL : Hid (∀ W : World, Below w.heap.size w W → Clk.Tab W)) :
    Calls Tryz.prog 37 #[.agg #[.int .i64 0, .int .i64 M, .int .i64 D, .int .i64 U]] w fun r' w' => r' = .returned (.string (jn ⟨#[32]⟩ (stN a b D 3).1)) ∧ Below w.heap.size w w' := by
  have K0 : Hid (BS w [(w.heap.size, [.int .i64 0, .int .i64 M, .int .i64 D, .int .i64 U])] (w.alloc (.cells #[.int .i64 0, .int .i64 M, .int .i64 D, .int .i64 U] 40))) := (BS.start w).new _ _ rfl
  have wa : IntKind.i64.wrap a = a := by rw [IntKind.wrap_i64]; omega
  have wb : IntKind.i64.wrap b = b := by rw [IntKind.wrap_i64]; omega
  obtain ⟨i1, hi1, hy0, hy1, hy2⟩ := info_parts infoS9
  go_enter Tryz.func37, Tryz.ntmps37
  go_upto_region 3 with fail
  refine bs_to K0 ?_
  clear K0
  intro W0 K0
  obtain ⟨c0, c1, c2, c3⟩ := (bo1 K0).c4
  go_wp2_with fail
  go_loopw [3, 4, 19] (fun wv lv iv wr => ∃ (i n c : Nat) (ao : Option Addr), iv = .int .i64 (i : Int) ∧ i ≤ 3 ∧ n ≤ 3 ∧ wv = .slice ao n c ∧ lv = .int .i64 (stN a b D i).2 ∧ Hid ((stN a b D i).1.length = n) ∧ Hid (BS w [(w.heap.size, [.int .i64 0, .int .i64 M, .int .i64 D, .int .i64 U])] wr) ∧ Hid (wr.ownsRow (w.heap.size + 1) 9 1 (.slice ao n c) n (cS (stN a b D i).1))) (fun _ _ iv _ => 3 - (intOf iv).toNat)
  case atStart => exact ⟨0, 0, 0, none, rfl, by decide, by decide, rfl, rfl, rfl, K0, World.ownsRow_nil _ _ _ _⟩
  case round =>
    clear K0 c0 c1 c2 c3
    obtain ⟨i, n, c, ao, rfl, hi, hn3, rfl, rfl, HN, HB, HO⟩ := hrel
    have hsz : w.heap.size + 1 ≤ wr.heap.size := (bo1 HB).1
    by_cases hlt : i < 3
    · have hN1 : n ≤ i := by have := stN_len a b D i hi; have := HN.out; omega
      obtain rfl | rfl | rfl : i = 0 ∨ i = 1 ∨ i = 2 := by omega
      · have est : stN a b D (0 + 1) = stW a ⟨#[121, 101, 97, 114]⟩ (stN a b D 0) := rfl
        obtain ⟨l, hl⟩ : ∃ l, (stN a b D 0).2 = l := ⟨_, rfl⟩
        rw [hl]
        have Mz := bsn HB [.int .i64 a, .string ⟨#[121, 101, 97, 114]⟩] 100
        have HO1 : Hid ((wr.alloc (.cells #[.int .i64 a, .string ⟨#[121, 101, 97, 114]⟩] 100)).ownsRow (w.heap.size + 1) 9 1 (.slice ao n c) n (cS (stN a b D 0).1)) := HO.out.alloc _
        have hix : ∀ w : World, (Instr.index 101 (.agg #[.int .i64 a, .string ⟨#[121, 101, 97, 114]⟩, .int .i64 b, .string ⟨#[109, 111, 110]⟩, .int .i64 D, .string ⟨#[100, 97, 121]⟩]) (.int .i64 ((0 : Nat) : Int))).run Tryz.prog w = .ok (.agg #[.int .i64 a, .string ⟨#[121, 101, 97, 114]⟩]) w := fun w => by kernel_rfl
        have hix2 : ∀ w : World, (Instr.index 101 (.agg #[.int .i64 a, .string ⟨#[121, 101, 97, 114]⟩, .int .i64 b, .string ⟨#[109, 111, 110]⟩, .int .i64 D, .string ⟨#[100, 97, 121]⟩]) (.int .i64 0)).run Tryz.prog w = .ok (.agg #[.int .i64 a, .string ⟨#[121, 101, 97, 114]⟩]) w := fun w => by kernel_rfl
        by_cases hz : a = 0
        · have est2 : Hid (stN a b D (0 + 1) = stN a b D 0) := by show _ = _; rw [est]; unfold stW; rw [if_pos hz]
          have z1 : (a == 0) = true := by simpa using hz
          clear hz est
          go_upto_region 6 with fail
          refine gen_to (fun V => Hid (BS w ((wr.heap.size, [.int .i64 a, .string ⟨#[121, 101, 97, 114]⟩]) :: [(w.heap.size, [.int .i64 0, .int .i64 M, .int .i64 D, .int .i64 U])]) V) ∧ Hid (V.ownsRow (w.heap.size + 1) 9 1 (.slice ao n c) n (cS (stN a b D 0).1))) ⟨Mz, HO1⟩ ?_
          clear Mz HO1 HB HO
          rintro V ⟨HB, HO⟩
          obtain ⟨d0, d1⟩ := (bo1 HB).c2
          go_wp2_with fail
          go_roundw
          case rel => exact ⟨0 + 1, n, c, ao, by go_num, by omega, hn3, rfl, by rw [est2.out, hl], by rw [est2.out]; exact HN, HB.out.tail, by rw [est2.out]; exact HO⟩
          case measure => simp [intOf]
        · have est2 : Hid (stN a b D (0 + 1) = ((stN a b D 0).1 ++ [unB a ⟨#[121, 101, 97, 114]⟩ l], a)) := by show _ = _; rw [est]; unfold stW; rw [if_neg hz, hl]
          have z1 : (a == 0) = false := by simpa using hz
          have HE : Hid (∀ k, (Value.slice ao n c).ownBlock = some k → w.heap.size + 1 ≤ k ∧ k < wr.heap.size) := fun k hk => HO.out.lt k hk
          clear hz est
          go_upto_region 6 with fail
          refine gen_to (fun V => Hid (BS w ((wr.heap.size, [.int .i64 a, .string ⟨#[121, 101, 97, 114]⟩]) :: [(w.heap.size, [.int .i64 0, .int .i64 M, .int .i64 D, .int .i64 U])]) V) ∧ Hid (V.ownsRow (w.heap.size + 1) 9 1 (.slice ao n c) n (cS (stN a b D 0).1))) ⟨Mz, HO1⟩ ?_
          clear Mz HO1 HB HO
          rintro V ⟨HB, HO⟩
          obtain ⟨d0, d1⟩ := (bo1 HB).c2
          go_upto_region 7 with fail
          have HO2 := HO.out.drew
          clear HO
          have HO : Hid (V.drew.ownsRow (w.heap.size + 1) 9 1 (.slice ao n c) n (cS (stN a b D 0).1)) := HO2
          clear HO2
          refine wp_region_held_drew (S := BS w ((wr.heap.size, [.int .i64 a, .string ⟨#[121, 101, 97, 114]⟩]) :: [(w.heap.size, [.int .i64 0, .int .i64 M, .int .i64 D, .int .i64 U])])) (by kernel_rfl) HB.out.drew (fun hHeld => ?_)
          refine wpAnyH_take (i := 0) (v := ?_) (oi := { dst := some 25, op := _, type := _, pos := _, after := _, guard := none }) rfl (by kernel_rfl) (by kernel_rfl) (by kernel_rfl) (fun _ _ _ h => h) (Or.inl ⟨by kernel_rfl, ?_⟩) (by assumption) ?_
          case refine_2 => (intro w9 hSw; clear hSw; go_simp; try with_reducible rfl)
          simp only [Act.put, List.setIfInBounds_toArray, List.set_cons_zero, List.set_cons_succ]
          refine wpAnyH_take (i := 1) (v := ?_) (oi := { dst := some 26, op := _, type := _, pos := _, after := _, guard := none }) rfl (by kernel_rfl) (by kernel_rfl) (by kernel_rfl) (fun _ _ _ h => h) (Or.inl ⟨by kernel_rfl, ?_⟩) (by assumption) ?_
          case refine_2 => (intro w9 hSw; clear hSw; go_simp; try with_reducible rfl)
          simp only [Act.put, List.setIfInBounds_toArray, List.set_cons_zero, List.set_cons_succ]
          refine wpAnyH_take (i := 2) (v := ?_) (oi := { dst := some 27, op := _, type := _, pos := _, after := _, guard := none }) rfl (by kernel_rfl) (by kernel_rfl) (by kernel_rfl) (fun _ _ _ h => h) (Or.inl ⟨by kernel_rfl, ?_⟩) (by assumption) ?_
          case refine_2 => (intro w9 hSw; clear hSw; go_simp; try with_reducible rfl)
          simp only [Act.put, List.setIfInBounds_toArray, List.set_cons_zero, List.set_cons_succ]
          refine wpAnyH_take (i := 3) (v := ?_) (oi := { dst := some 28, op := _, type := _, pos := _, after := _, guard := none }) rfl (by kernel_rfl) (by kernel_rfl) (by kernel_rfl) (fun _ _ _ h => h) (Or.inl ⟨by kernel_rfl, ?_⟩) (by assumption) ?_
          case refine_2 => (intro w9 hSw; have l0 := (hSw.at (wr.heap.size) [.int .i64 a, .string ⟨#[121, 101, 97, 114]⟩] (by simp)).c 0 rfl; have l1 := (hSw.at (wr.heap.size) [.int .i64 a, .string ⟨#[121, 101, 97, 114]⟩] (by simp)).c 1 rfl; clear hSw; go_simp; try with_reducible rfl)
          simp only [Act.put, List.setIfInBounds_toArray, List.set_cons_zero, List.set_cons_succ]
          refine wpAnyH_take (i := 5) (v := ?_) (oi := { dst := some 30, op := _, type := _, pos := _, after := _, guard := none }) rfl (by kernel_rfl) (by kernel_rfl) (by kernel_rfl) (fun _ _ _ h => h) (Or.inl ⟨by kernel_rfl, ?_⟩) (by assumption) ?_
          case refine_2 => (intro w9 hSw; clear hSw; go_simp; try with_reducible rfl)
          simp only [Act.put, List.setIfInBounds_toArray, List.set_cons_zero, List.set_cons_succ]
          refine wpAnyH_take (i := 6) (v := ?_) (oi := { dst := some 31, op := _, type := _, pos := _, after := _, guard := none }) rfl (by kernel_rfl) (by kernel_rfl) (by kernel_rfl) (fun _ _ _ h => h) (Or.inl ⟨by kernel_rfl, ?_⟩) (by assumption) ?_
          case refine_2 => (intro w9 hSw; have l0 := (hSw.at (wr.heap.size) [.int .i64 a, .string ⟨#[121, 101, 97, 114]⟩] (by simp)).c 0 rfl; have l1 := (hSw.at (wr.heap.size) [.int .i64 a, .string ⟨#[121, 101, 97, 114]⟩] (by simp)).c 1 rfl; clear hSw; go_simp; try with_reducible rfl)
          simp only [Act.put, List.setIfInBounds_toArray, List.set_cons_zero, List.set_cons_succ]
          refine wpAnyH_take (i := 8) (v := ?_) (oi := { dst := some 33, op := _, type := _, pos := _, after := _, guard := none }) rfl (by kernel_rfl) (by kernel_rfl) (by kernel_rfl) (fun _ _ _ h => h) (Or.inl ⟨by kernel_rfl, ?_⟩) (by assumption) ?_
          case refine_2 => (intro w9 hSw; clear hSw; go_simp; try with_reducible rfl)
          simp only [Act.put, List.setIfInBounds_toArray, List.set_cons_zero, List.set_cons_succ]
          refine wpAnyH_take (i := 9) (v := ?_) (oi := { dst := some 34, op := _, type := _, pos := _, after := _, guard := none }) rfl (by kernel_rfl) (by kernel_rfl) (by kernel_rfl) (fun _ _ _ h => h) (Or.inl ⟨by kernel_rfl, ?_⟩) (by assumption) ?_
          case refine_2 => (intro w9 hSw; have l0 := (hSw.at (wr.heap.size) [.int .i64 a, .string ⟨#[121, 101, 97, 114]⟩] (by simp)).c 0 rfl; have l1 := (hSw.at (wr.heap.size) [.int .i64 a, .string ⟨#[121, 101, 97, 114]⟩] (by simp)).c 1 rfl; clear hSw; go_simp; try with_reducible rfl)
          simp only [Act.put, List.setIfInBounds_toArray, List.set_cons_zero, List.set_cons_succ]
          refine wpAnyH_take (i := 10) (v := ?_) (oi := { dst := some 35, op := _, type := _, pos := _, after := _, guard := none }) rfl (by kernel_rfl) (by kernel_rfl) (by kernel_rfl) (fun _ _ _ h => h) (Or.inl ⟨by kernel_rfl, ?_⟩) (by assumption) ?_
          case refine_2 => (intro w9 hSw; clear hSw; go_simp; try with_reducible rfl)
          simp only [Act.put, List.setIfInBounds_toArray, List.set_cons_zero, List.set_cons_succ]
          refine wpAnyH_take (i := 11) (v := ?_) (oi := { dst := some 36, op := _, type := _, pos := _, after := _, guard := none }) rfl (by kernel_rfl) (by kernel_rfl) (by kernel_rfl) (fun _ _ _ h => h) (Or.inl ⟨by kernel_rfl, ?_⟩) (by assumption) ?_
          case refine_2 => (intro w9 hSw; have l0 := (hSw.at (wr.heap.size) [.int .i64 a, .string ⟨#[121, 101, 97, 114]⟩] (by simp)).c 0 rfl; have l1 := (hSw.at (wr.heap.size) [.int .i64 a, .string ⟨#[121, 101, 97, 114]⟩] (by simp)).c 1 rfl; clear hSw; go_simp; try with_reducible rfl)
          simp only [Act.put, List.setIfInBounds_toArray, List.set_cons_zero, List.set_cons_succ]
          refine wpAnyH_ready (rs := [4]) (by kernel_rfl) (by simp) (AllReadyH.cons (o := { dst := some 29, op := _, type := _, pos := _, after := _, guard := none }) rfl (fun K hK => ?_) AllReadyH.nil)
          go_simp
          refine (turn_any _ _ _).mono ?_
          rintro e v1 ⟨rfl, hw1⟩
          rw [hw1]
          clear hw1 v1
          refine hK.out _ _ hHeld (fun hHeld => ?_)
          clear hK K
          refine wpAnyH_ready (rs := [7]) (by kernel_rfl) (by simp) (AllReadyH.cons (o := { dst := some 32, op := _, type := _, pos := _, after := _, guard := none }) rfl (fun K hK => ?_) AllReadyH.nil)
          go_simp
          refine (digits_any a (by omega) (by omega) _ (hL.out _ hHeld.1)).mono ?_
          rintro e v2 ⟨rfl, hb2⟩
          refine hK.out _ _ (hHeld.below hb2) (fun hHeld => ?_)
          have HO2 := own_keep HO.out hb2
          clear HO
          have HO : Hid (World.ownsRow _ _ _ _ _ _ _) := HO2
          clear HO2
          clear hK K hb2
          refine wpAnyH_ready (rs := [12]) (by kernel_rfl) (by simp) (AllReadyH.cons (o := { dst := some 37, op := _, type := _, pos := _, after := _, guard := none }) rfl (fun K hK => ?_) AllReadyH.nil)
          go_simp
          refine (many_any _ _).mono ?_
          rintro e v3 ⟨rfl, hw3⟩
          rw [hw3]
          clear hw3 v3
          refine hK.out _ _ hHeld (fun hHeld => ?_)
          clear hK K
          refine wpAnyH_ready (rs := [13]) (by kernel_rfl) (by simp) (AllReadyH.cons (o := { dst := some 38, op := _, type := _, pos := _, after := _, guard := none }) rfl (fun K hK => ?_) AllReadyH.nil)
          go_simp
          refine hK.out _ _ (hHeld.alloc _) (fun hHeld => ?_)
          have HX := bx_held _ hHeld
          have HO2 := own_held hHeld HO
          clear HO
          have HO : Hid (World.ownsRow _ _ _ _ _ _ _) := HO2.out
          clear HO2
          clear hK K
          refine wpAnyH_ready (rs := [14]) (by kernel_rfl) (by simp) (AllReadyH.cons (o := { dst := some 39, op := _, type := _, pos := _, after := _, guard := none }) rfl (fun K hK => ?_) AllReadyH.nil)
          go_simp
          refine (je5 (trn l a) (dg a) ⟨#[32]⟩ ⟨#[121, 101, 97, 114]⟩ (mny a) (Nat.le_trans (trn_size _ _) (by decide)) (Nat.le_trans (dg_size _ (by omega) (by omega)) (by decide)) (by decide) (by decide) (Nat.le_trans (mny_size _) (by decide)) _ _ HX.out).mono ?_
          rintro e v5 ⟨rfl, hb5⟩
          rw [show trn l a ++ dg a ++ ⟨#[32]⟩ ++ ⟨#[121, 101, 97, 114]⟩ ++ mny a = unB a ⟨#[121, 101, 97, 114]⟩ l from rfl]
          refine hK.out _ _ (hHeld.below hb5) (fun hHeld => ?_)
          have HO2 := own_keep HO.out hb5
          clear HO
          have HO : Hid (World.ownsRow _ _ _ _ _ _ _) := HO2
          clear HO2
          clear hK K hb5 HX
          refine wpAnyH_ready (rs := [15]) (by kernel_rfl) (by simp) (AllReadyH.cons (o := { dst := some 40, op := _, type := _, pos := _, after := _, guard := none }) rfl (fun K hK => ?_) AllReadyH.nil)
          go_simp
          refine hK.out _ _ (hHeld.alloc _) (fun hHeld => ?_)
          have HX := bx_held _ hHeld
          have HO2 := own_held hHeld HO
          clear HO
          have HO : Hid (World.ownsRow _ _ _ _ _ _ _) := HO2.out
          clear HO2
          clear hK K
          refine wpAnyH_ready (rs := [16]) (by kernel_rfl) (by simp) (AllReadyH.cons (o := { dst := some 41, op := _, type := _, pos := _, after := _, guard := none }) rfl (fun K hK => ?_) AllReadyH.nil)
          refine (if_pos (by kernel_rfl)).mpr (wp_append_own _ _ _ 57 rfl (w.heap.size + 1) 9 i1 (.string ByteArray.empty) 1 16 Tryz.underlying57 hi1 hy0 hy1 hy2 rfl (by decide) (.slice ao n c) n _ rfl HO.out _ 1 1 [.string (unB a ⟨#[121, 101, 97, 114]⟩ l)] rfl rfl (bx_cells HX.out) (by intro u hu; simp at hu; subst hu; rfl) (by unfold maxLen; omega) (by omega) (by have := (hHeld.at (w.heap.size) [.int .i64 0, .int .i64 M, .int .i64 D, .int .i64 U] (by simp)).1; omega) ?_)
          intro v' w' hown hgr _
          obtain ⟨ao', c', hv'⟩ : ∃ ao' c', v' = .slice ao' (n + 1) c' := by (rcases hown.2 with ⟨e, z⟩ | ⟨g, cap, cur, e, _⟩; (exact absurd z (by omega)); exact ⟨_, _, e⟩)
          subst hv'
          have HB2 : BS w ((wr.heap.size, [.int .i64 a, .string ⟨#[121, 101, 97, 114]⟩]) :: [(w.heap.size, [.int .i64 0, .int .i64 M, .int .i64 D, .int .i64 U])]) w' := bs_grown hHeld (by intro x hx e; have hk := HE.out x.1 e.symm; simp only [List.mem_cons, List.not_mem_nil, or_false] at hx; rcases hx with rfl | rfl; (simp only [] at hk; omega); (simp only [] at hk; omega)) (fun k hk => by have := HE.out k hk; omega) hgr
          refine hK.out _ _ HB2 (fun hHeld => ?_)
          have HN2 : Hid (World.ownsRow w' (w.heap.size + 1) 9 1 (.slice ao' (n + 1) c') (n + 1) (cS ((stN a b D 0).1 ++ [unB a ⟨#[121, 101, 97, 114]⟩ l]))) := by (rw [cS_app]; exact hown)
          clear hK K HO HX hgr hown HB2 HE
          refine wpAnyH_take (i := 17) (v := ?_) (oi := { dst := some 3, op := _, type := _, pos := _, after := _, guard := none }) rfl (by kernel_rfl) (by kernel_rfl) (by kernel_rfl) (fun _ _ _ h => h) (Or.inl ⟨by kernel_rfl, ?_⟩) (by assumption) ?_
          case refine_2 => (intro w9 hSw; clear hSw; go_simp; try with_reducible rfl)
          simp only [Act.put, List.setIfInBounds_toArray, List.set_cons_zero, List.set_cons_succ]
          refine wpAnyH_done (by kernel_rfl) ?_ _
          have HB9 : Hid (BS w ((wr.heap.size, [.int .i64 a, .string ⟨#[121, 101, 97, 114]⟩]) :: [(w.heap.size, [.int .i64 0, .int .i64 M, .int .i64 D, .int .i64 U])]) _) := hHeld
          clear hHeld
          obtain ⟨e0, e1⟩ := (bo1 HB9).c2
          go_wp2_with fail
          go_roundw
          case rel => exact ⟨0 + 1, n + 1, c', ao', by go_num, by omega, by omega, rfl, by rw [est2.out], by (show _ = _; rw [est2.out, List.length_append, HN.out]; rfl), HB9.out.tail, by (rw [est2.out]; exact HN2)⟩
          case measure => simp [intOf]
      · have est : stN a b D (1 + 1) = stW b ⟨#[109, 111, 110]⟩ (stN a b D 1) := rfl
        obtain ⟨l, hl⟩ : ∃ l, (stN a b D 1).2 = l := ⟨_, rfl⟩
        rw [hl]
        have Mz := bsn HB [.int .i64 b, .string ⟨#[109, 111, 110]⟩] 100
        have HO1 : Hid ((wr.alloc (.cells #[.int .i64 b, .string ⟨#[109, 111, 110]⟩] 100)).ownsRow (w.heap.size + 1) 9 1 (.slice ao n c) n (cS (stN a b D 1).1)) := HO.out.alloc _
        have hix : ∀ w : World, (Instr.index 101 (.agg #[.int .i64 a, .string ⟨#[121, 101, 97, 114]⟩, .int .i64 b, .string ⟨#[109, 111, 110]⟩, .int .i64 D, .string ⟨#[100, 97, 121]⟩]) (.int .i64 ((1 : Nat) : Int))).run Tryz.prog w = .ok (.agg #[.int .i64 b, .string ⟨#[109, 111, 110]⟩]) w := fun w => by kernel_rfl
        have hix2 : ∀ w : World, (Instr.index 101 (.agg #[.int .i64 a, .string ⟨#[121, 101, 97, 114]⟩, .int .i64 b, .string ⟨#[109, 111, 110]⟩, .int .i64 D, .string ⟨#[100, 97, 121]⟩]) (.int .i64 1)).run Tryz.prog w = .ok (.agg #[.int .i64 b, .string ⟨#[109, 111, 110]⟩]) w := fun w => by kernel_rfl
        by_cases hz : b = 0
        · have est2 : Hid (stN a b D (1 + 1) = stN a b D 1) := by show _ = _; rw [est]; unfold stW; rw [if_pos hz]
          have z1 : (b == 0) = true := by simpa using hz
          clear hz est
          go_upto_region 6 with fail
          refine gen_to (fun V => Hid (BS w ((wr.heap.size, [.int .i64 b, .string ⟨#[109, 111, 110]⟩]) :: [(w.heap.size, [.int .i64 0, .int .i64 M, .int .i64 D, .int .i64 U])]) V) ∧ Hid (V.ownsRow (w.heap.size + 1) 9 1 (.slice ao n c) n (cS (stN a b D 1).1))) ⟨Mz, HO1⟩ ?_
          clear Mz HO1 HB HO
          rintro V ⟨HB, HO⟩
          obtain ⟨d0, d1⟩ := (bo1 HB).c2
          go_wp2_with fail
          go_roundw
          case rel => exact ⟨1 + 1, n, c, ao, by go_num, by omega, hn3, rfl, by rw [est2.out, hl], by rw [est2.out]; exact HN, HB.out.tail, by rw [est2.out]; exact HO⟩
          case measure => simp [intOf]
        · have est2 : Hid (stN a b D (1 + 1) = ((stN a b D 1).1 ++ [unB b ⟨#[109, 111, 110]⟩ l], b)) := by show _ = _; rw [est]; unfold stW; rw [if_neg hz, hl]
          have z1 : (b == 0) = false := by simpa using hz
          have HE : Hid (∀ k, (Value.slice ao n c).ownBlock = some k → w.heap.size + 1 ≤ k ∧ k < wr.heap.size) := fun k hk => HO.out.lt k hk
          clear hz est
          go_upto_region 6 with fail
          refine gen_to (fun V => Hid (BS w ((wr.heap.size, [.int .i64 b, .string ⟨#[109, 111, 110]⟩]) :: [(w.heap.size, [.int .i64 0, .int .i64 M, .int .i64 D, .int .i64 U])]) V) ∧ Hid (V.ownsRow (w.heap.size + 1) 9 1 (.slice ao n c) n (cS (stN a b D 1).1))) ⟨Mz, HO1⟩ ?_
          clear Mz HO1 HB HO
          rintro V ⟨HB, HO⟩
          obtain ⟨d0, d1⟩ := (bo1 HB).c2
          go_upto_region 7 with fail
          have HO2 := HO.out.drew
          clear HO
          have HO : Hid (V.drew.ownsRow (w.heap.size + 1) 9 1 (.slice ao n c) n (cS (stN a b D 1).1)) := HO2
          clear HO2
          refine wp_region_held_drew (S := BS w ((wr.heap.size, [.int .i64 b, .string ⟨#[109, 111, 110]⟩]) :: [(w.heap.size, [.int .i64 0, .int .i64 M, .int .i64 D, .int .i64 U])])) (by kernel_rfl) HB.out.drew (fun hHeld => ?_)
          refine wpAnyH_take (i := 0) (v := ?_) (oi := { dst := some 25, op := _, type := _, pos := _, after := _, guard := none }) rfl (by kernel_rfl) (by kernel_rfl) (by kernel_rfl) (fun _ _ _ h => h) (Or.inl ⟨by kernel_rfl, ?_⟩) (by assumption) ?_
          case refine_2 => (intro w9 hSw; clear hSw; go_simp; try with_reducible rfl)
          simp only [Act.put, List.setIfInBounds_toArray, List.set_cons_zero, List.set_cons_succ]
          refine wpAnyH_take (i := 1) (v := ?_) (oi := { dst := some 26, op := _, type := _, pos := _, after := _, guard := none }) rfl (by kernel_rfl) (by kernel_rfl) (by kernel_rfl) (fun _ _ _ h => h) (Or.inl ⟨by kernel_rfl, ?_⟩) (by assumption) ?_
          case refine_2 => (intro w9 hSw; clear hSw; go_simp; try with_reducible rfl)
          simp only [Act.put, List.setIfInBounds_toArray, List.set_cons_zero, List.set_cons_succ]
          refine wpAnyH_take (i := 2) (v := ?_) (oi := { dst := some 27, op := _, type := _, pos := _, after := _, guard := none }) rfl (by kernel_rfl) (by kernel_rfl) (by kernel_rfl) (fun _ _ _ h => h) (Or.inl ⟨by kernel_rfl, ?_⟩) (by assumption) ?_
          case refine_2 => (intro w9 hSw; clear hSw; go_simp; try with_reducible rfl)
          simp only [Act.put, List.setIfInBounds_toArray, List.set_cons_zero, List.set_cons_succ]
          refine wpAnyH_take (i := 3) (v := ?_) (oi := { dst := some 28, op := _, type := _, pos := _, after := _, guard := none }) rfl (by kernel_rfl) (by kernel_rfl) (by kernel_rfl) (fun _ _ _ h => h) (Or.inl ⟨by kernel_rfl, ?_⟩) (by assumption) ?_
          case refine_2 => (intro w9 hSw; have l0 := (hSw.at (wr.heap.size) [.int .i64 b, .string ⟨#[109, 111, 110]⟩] (by simp)).c 0 rfl; have l1 := (hSw.at (wr.heap.size) [.int .i64 b, .string ⟨#[109, 111, 110]⟩] (by simp)).c 1 rfl; clear hSw; go_simp; try with_reducible rfl)
          simp only [Act.put, List.setIfInBounds_toArray, List.set_cons_zero, List.set_cons_succ]
          refine wpAnyH_take (i := 5) (v := ?_) (oi := { dst := some 30, op := _, type := _, pos := _, after := _, guard := none }) rfl (by kernel_rfl) (by kernel_rfl) (by kernel_rfl) (fun _ _ _ h => h) (Or.inl ⟨by kernel_rfl, ?_⟩) (by assumption) ?_
          case refine_2 => (intro w9 hSw; clear hSw; go_simp; try with_reducible rfl)
          simp only [Act.put, List.setIfInBounds_toArray, List.set_cons_zero, List.set_cons_succ]
          refine wpAnyH_take (i := 6) (v := ?_) (oi := { dst := some 31, op := _, type := _, pos := _, after := _, guard := none }) rfl (by kernel_rfl) (by kernel_rfl) (by kernel_rfl) (fun _ _ _ h => h) (Or.inl ⟨by kernel_rfl, ?_⟩) (by assumption) ?_
          case refine_2 => (intro w9 hSw; have l0 := (hSw.at (wr.heap.size) [.int .i64 b, .string ⟨#[109, 111, 110]⟩] (by simp)).c 0 rfl; have l1 := (hSw.at (wr.heap.size) [.int .i64 b, .string ⟨#[109, 111, 110]⟩] (by simp)).c 1 rfl; clear hSw; go_simp; try with_reducible rfl)
          simp only [Act.put, List.setIfInBounds_toArray, List.set_cons_zero, List.set_cons_succ]
          refine wpAnyH_take (i := 8) (v := ?_) (oi := { dst := some 33, op := _, type := _, pos := _, after := _, guard := none }) rfl (by kernel_rfl) (by kernel_rfl) (by kernel_rfl) (fun _ _ _ h => h) (Or.inl ⟨by kernel_rfl, ?_⟩) (by assumption) ?_
          case refine_2 => (intro w9 hSw; clear hSw; go_simp; try with_reducible rfl)
          simp only [Act.put, List.setIfInBounds_toArray, List.set_cons_zero, List.set_cons_succ]
          refine wpAnyH_take (i := 9) (v := ?_) (oi := { dst := some 34, op := _, type := _, pos := _, after := _, guard := none }) rfl (by kernel_rfl) (by kernel_rfl) (by kernel_rfl) (fun _ _ _ h => h) (Or.inl ⟨by kernel_rfl, ?_⟩) (by assumption) ?_
          case refine_2 => (intro w9 hSw; have l0 := (hSw.at (wr.heap.size) [.int .i64 b, .string ⟨#[109, 111, 110]⟩] (by simp)).c 0 rfl; have l1 := (hSw.at (wr.heap.size) [.int .i64 b, .string ⟨#[109, 111, 110]⟩] (by simp)).c 1 rfl; clear hSw; go_simp; try with_reducible rfl)
          simp only [Act.put, List.setIfInBounds_toArray, List.set_cons_zero, List.set_cons_succ]
          refine wpAnyH_take (i := 10) (v := ?_) (oi := { dst := some 35, op := _, type := _, pos := _, after := _, guard := none }) rfl (by kernel_rfl) (by kernel_rfl) (by kernel_rfl) (fun _ _ _ h => h) (Or.inl ⟨by kernel_rfl, ?_⟩) (by assumption) ?_
          case refine_2 => (intro w9 hSw; clear hSw; go_simp; try with_reducible rfl)
          simp only [Act.put, List.setIfInBounds_toArray, List.set_cons_zero, List.set_cons_succ]
          refine wpAnyH_take (i := 11) (v := ?_) (oi := { dst := some 36, op := _, type := _, pos := _, after := _, guard := none }) rfl (by kernel_rfl) (by kernel_rfl) (by kernel_rfl) (fun _ _ _ h => h) (Or.inl ⟨by kernel_rfl, ?_⟩) (by assumption) ?_
          case refine_2 => (intro w9 hSw; have l0 := (hSw.at (wr.heap.size) [.int .i64 b, .string ⟨#[109, 111, 110]⟩] (by simp)).c 0 rfl; have l1 := (hSw.at (wr.heap.size) [.int .i64 b, .string ⟨#[109, 111, 110]⟩] (by simp)).c 1 rfl; clear hSw; go_simp; try with_reducible rfl)
          simp only [Act.put, List.setIfInBounds_toArray, List.set_cons_zero, List.set_cons_succ]
          refine wpAnyH_ready (rs := [4]) (by kernel_rfl) (by simp) (AllReadyH.cons (o := { dst := some 29, op := _, type := _, pos := _, after := _, guard := none }) rfl (fun K hK => ?_) AllReadyH.nil)
          go_simp
          refine (turn_any _ _ _).mono ?_
          rintro e v1 ⟨rfl, hw1⟩
          rw [hw1]
          clear hw1 v1
          refine hK.out _ _ hHeld (fun hHeld => ?_)
          clear hK K
          refine wpAnyH_ready (rs := [7]) (by kernel_rfl) (by simp) (AllReadyH.cons (o := { dst := some 32, op := _, type := _, pos := _, after := _, guard := none }) rfl (fun K hK => ?_) AllReadyH.nil)
          go_simp
          refine (digits_any b (by omega) (by omega) _ (hL.out _ hHeld.1)).mono ?_
          rintro e v2 ⟨rfl, hb2⟩
          refine hK.out _ _ (hHeld.below hb2) (fun hHeld => ?_)
          have HO2 := own_keep HO.out hb2
          clear HO
          have HO : Hid (World.ownsRow _ _ _ _ _ _ _) := HO2
          clear HO2
          clear hK K hb2
          refine wpAnyH_ready (rs := [12]) (by kernel_rfl) (by simp) (AllReadyH.cons (o := { dst := some 37, op := _, type := _, pos := _, after := _, guard := none }) rfl (fun K hK => ?_) AllReadyH.nil)
          go_simp
          refine (many_any _ _).mono ?_
          rintro e v3 ⟨rfl, hw3⟩
          rw [hw3]
          clear hw3 v3
          refine hK.out _ _ hHeld (fun hHeld => ?_)
          clear hK K
          refine wpAnyH_ready (rs := [13]) (by kernel_rfl) (by simp) (AllReadyH.cons (o := { dst := some 38, op := _, type := _, pos := _, after := _, guard := none }) rfl (fun K hK => ?_) AllReadyH.nil)
          go_simp
          refine hK.out _ _ (hHeld.alloc _) (fun hHeld => ?_)
          have HX := bx_held _ hHeld
          have HO2 := own_held hHeld HO
          clear HO
          have HO : Hid (World.ownsRow _ _ _ _ _ _ _) := HO2.out
          clear HO2
          clear hK K
          refine wpAnyH_ready (rs := [14]) (by kernel_rfl) (by simp) (AllReadyH.cons (o := { dst := some 39, op := _, type := _, pos := _, after := _, guard := none }) rfl (fun K hK => ?_) AllReadyH.nil)
          go_simp
          refine (je5 (trn l b) (dg b) ⟨#[32]⟩ ⟨#[109, 111, 110]⟩ (mny b) (Nat.le_trans (trn_size _ _) (by decide)) (Nat.le_trans (dg_size _ (by omega) (by omega)) (by decide)) (by decide) (by decide) (Nat.le_trans (mny_size _) (by decide)) _ _ HX.out).mono ?_
          rintro e v5 ⟨rfl, hb5⟩
          rw [show trn l b ++ dg b ++ ⟨#[32]⟩ ++ ⟨#[109, 111, 110]⟩ ++ mny b = unB b ⟨#[109, 111, 110]⟩ l from rfl]
          refine hK.out _ _ (hHeld.below hb5) (fun hHeld => ?_)
          have HO2 := own_keep HO.out hb5
          clear HO
          have HO : Hid (World.ownsRow _ _ _ _ _ _ _) := HO2
          clear HO2
          clear hK K hb5 HX
          refine wpAnyH_ready (rs := [15]) (by kernel_rfl) (by simp) (AllReadyH.cons (o := { dst := some 40, op := _, type := _, pos := _, after := _, guard := none }) rfl (fun K hK => ?_) AllReadyH.nil)
          go_simp
          refine hK.out _ _ (hHeld.alloc _) (fun hHeld => ?_)
          have HX := bx_held _ hHeld
          have HO2 := own_held hHeld HO
          clear HO
          have HO : Hid (World.ownsRow _ _ _ _ _ _ _) := HO2.out
          clear HO2
          clear hK K
          refine wpAnyH_ready (rs := [16]) (by kernel_rfl) (by simp) (AllReadyH.cons (o := { dst := some 41, op := _, type := _, pos := _, after := _, guard := none }) rfl (fun K hK => ?_) AllReadyH.nil)
          refine (if_pos (by kernel_rfl)).mpr (wp_append_own _ _ _ 57 rfl (w.heap.size + 1) 9 i1 (.string ByteArray.empty) 1 16 Tryz.underlying57 hi1 hy0 hy1 hy2 rfl (by decide) (.slice ao n c) n _ rfl HO.out _ 1 1 [.string (unB b ⟨#[109, 111, 110]⟩ l)] rfl rfl (bx_cells HX.out) (by intro u hu; simp at hu; subst hu; rfl) (by unfold maxLen; omega) (by omega) (by have := (hHeld.at (w.heap.size) [.int .i64 0, .int .i64 M, .int .i64 D, .int .i64 U] (by simp)).1; omega) ?_)
          intro v' w' hown hgr _
          obtain ⟨ao', c', hv'⟩ : ∃ ao' c', v' = .slice ao' (n + 1) c' := by (rcases hown.2 with ⟨e, z⟩ | ⟨g, cap, cur, e, _⟩; (exact absurd z (by omega)); exact ⟨_, _, e⟩)
          subst hv'
          have HB2 : BS w ((wr.heap.size, [.int .i64 b, .string ⟨#[109, 111, 110]⟩]) :: [(w.heap.size, [.int .i64 0, .int .i64 M, .int .i64 D, .int .i64 U])]) w' := bs_grown hHeld (by intro x hx e; have hk := HE.out x.1 e.symm; simp only [List.mem_cons, List.not_mem_nil, or_false] at hx; rcases hx with rfl | rfl; (simp only [] at hk; omega); (simp only [] at hk; omega)) (fun k hk => by have := HE.out k hk; omega) hgr
          refine hK.out _ _ HB2 (fun hHeld => ?_)
          have HN2 : Hid (World.ownsRow w' (w.heap.size + 1) 9 1 (.slice ao' (n + 1) c') (n + 1) (cS ((stN a b D 1).1 ++ [unB b ⟨#[109, 111, 110]⟩ l]))) := by (rw [cS_app]; exact hown)
          clear hK K HO HX hgr hown HB2 HE
          refine wpAnyH_take (i := 17) (v := ?_) (oi := { dst := some 3, op := _, type := _, pos := _, after := _, guard := none }) rfl (by kernel_rfl) (by kernel_rfl) (by kernel_rfl) (fun _ _ _ h => h) (Or.inl ⟨by kernel_rfl, ?_⟩) (by assumption) ?_
          case refine_2 => (intro w9 hSw; clear hSw; go_simp; try with_reducible rfl)
          simp only [Act.put, List.setIfInBounds_toArray, List.set_cons_zero, List.set_cons_succ]
          refine wpAnyH_done (by kernel_rfl) ?_ _
          have HB9 : Hid (BS w ((wr.heap.size, [.int .i64 b, .string ⟨#[109, 111, 110]⟩]) :: [(w.heap.size, [.int .i64 0, .int .i64 M, .int .i64 D, .int .i64 U])]) _) := hHeld
          clear hHeld
          obtain ⟨e0, e1⟩ := (bo1 HB9).c2
          go_wp2_with fail
          go_roundw
          case rel => exact ⟨1 + 1, n + 1, c', ao', by go_num, by omega, by omega, rfl, by rw [est2.out], by (show _ = _; rw [est2.out, List.length_append, HN.out]; rfl), HB9.out.tail, by (rw [est2.out]; exact HN2)⟩
          case measure => simp [intOf]
      · have est : stN a b D (2 + 1) = stW D ⟨#[100, 97, 121]⟩ (stN a b D 2) := rfl
        obtain ⟨l, hl⟩ : ∃ l, (stN a b D 2).2 = l := ⟨_, rfl⟩
        rw [hl]
        have Mz := bsn HB [.int .i64 D, .string ⟨#[100, 97, 121]⟩] 100
        have HO1 : Hid ((wr.alloc (.cells #[.int .i64 D, .string ⟨#[100, 97, 121]⟩] 100)).ownsRow (w.heap.size + 1) 9 1 (.slice ao n c) n (cS (stN a b D 2).1)) := HO.out.alloc _
        have hix : ∀ w : World, (Instr.index 101 (.agg #[.int .i64 a, .string ⟨#[121, 101, 97, 114]⟩, .int .i64 b, .string ⟨#[109, 111, 110]⟩, .int .i64 D, .string ⟨#[100, 97, 121]⟩]) (.int .i64 ((2 : Nat) : Int))).run Tryz.prog w = .ok (.agg #[.int .i64 D, .string ⟨#[100, 97, 121]⟩]) w := fun w => by kernel_rfl
        have hix2 : ∀ w : World, (Instr.index 101 (.agg #[.int .i64 a, .string ⟨#[121, 101, 97, 114]⟩, .int .i64 b, .string ⟨#[109, 111, 110]⟩, .int .i64 D, .string ⟨#[100, 97, 121]⟩]) (.int .i64 2)).run Tryz.prog w = .ok (.agg #[.int .i64 D, .string ⟨#[100, 97, 121]⟩]) w := fun w => by kernel_rfl
        by_cases hz : D = 0
        · have est2 : Hid (stN a b D (2 + 1) = stN a b D 2) := by show _ = _; rw [est]; unfold stW; rw [if_pos hz]
          have z1 : (D == 0) = true := by simpa using hz
          clear hz est
          go_upto_region 6 with fail
          refine gen_to (fun V => Hid (BS w ((wr.heap.size, [.int .i64 D, .string ⟨#[100, 97, 121]⟩]) :: [(w.heap.size, [.int .i64 0, .int .i64 M, .int .i64 D, .int .i64 U])]) V) ∧ Hid (V.ownsRow (w.heap.size + 1) 9 1 (.slice ao n c) n (cS (stN a b D 2).1))) ⟨Mz, HO1⟩ ?_
          clear Mz HO1 HB HO
          rintro V ⟨HB, HO⟩
          obtain ⟨d0, d1⟩ := (bo1 HB).c2
          go_wp2_with fail
          go_roundw
          case rel => exact ⟨2 + 1, n, c, ao, by go_num, by omega, hn3, rfl, by rw [est2.out, hl], by rw [est2.out]; exact HN, HB.out.tail, by rw [est2.out]; exact HO⟩
          case measure => simp [intOf]
        · have est2 : Hid (stN a b D (2 + 1) = ((stN a b D 2).1 ++ [unB D ⟨#[100, 97, 121]⟩ l], D)) := by show _ = _; rw [est]; unfold stW; rw [if_neg hz, hl]
          have z1 : (D == 0) = false := by simpa using hz
          have HE : Hid (∀ k, (Value.slice ao n c).ownBlock = some k → w.heap.size + 1 ≤ k ∧ k < wr.heap.size) := fun k hk => HO.out.lt k hk
          clear hz est
          go_upto_region 6 with fail
          refine gen_to (fun V => Hid (BS w ((wr.heap.size, [.int .i64 D, .string ⟨#[100, 97, 121]⟩]) :: [(w.heap.size, [.int .i64 0, .int .i64 M, .int .i64 D, .int .i64 U])]) V) ∧ Hid (V.ownsRow (w.heap.size + 1) 9 1 (.slice ao n c) n (cS (stN a b D 2).1))) ⟨Mz, HO1⟩ ?_
          clear Mz HO1 HB HO
          rintro V ⟨HB, HO⟩
          obtain ⟨d0, d1⟩ := (bo1 HB).c2
          go_upto_region 7 with fail
          have HO2 := HO.out.drew
          clear HO
          have HO : Hid (V.drew.ownsRow (w.heap.size + 1) 9 1 (.slice ao n c) n (cS (stN a b D 2).1)) := HO2
          clear HO2
          refine wp_region_held_drew (S := BS w ((wr.heap.size, [.int .i64 D, .string ⟨#[100, 97, 121]⟩]) :: [(w.heap.size, [.int .i64 0, .int .i64 M, .int .i64 D, .int .i64 U])])) (by kernel_rfl) HB.out.drew (fun hHeld => ?_)
          refine wpAnyH_take (i := 0) (v := ?_) (oi := { dst := some 25, op := _, type := _, pos := _, after := _, guard := none }) rfl (by kernel_rfl) (by kernel_rfl) (by kernel_rfl) (fun _ _ _ h => h) (Or.inl ⟨by kernel_rfl, ?_⟩) (by assumption) ?_
          case refine_2 => (intro w9 hSw; clear hSw; go_simp; try with_reducible rfl)
          simp only [Act.put, List.setIfInBounds_toArray, List.set_cons_zero, List.set_cons_succ]
          refine wpAnyH_take (i := 1) (v := ?_) (oi := { dst := some 26, op := _, type := _, pos := _, after := _, guard := none }) rfl (by kernel_rfl) (by kernel_rfl) (by kernel_rfl) (fun _ _ _ h => h) (Or.inl ⟨by kernel_rfl, ?_⟩) (by assumption) ?_
          case refine_2 => (intro w9 hSw; clear hSw; go_simp; try with_reducible rfl)
          simp only [Act.put, List.setIfInBounds_toArray, List.set_cons_zero, List.set_cons_succ]
          refine wpAnyH_take (i := 2) (v := ?_) (oi := { dst := some 27, op := _, type := _, pos := _, after := _, guard := none }) rfl (by kernel_rfl) (by kernel_rfl) (by kernel_rfl) (fun _ _ _ h => h) (Or.inl ⟨by kernel_rfl, ?_⟩) (by assumption) ?_
          case refine_2 => (intro w9 hSw; clear hSw; go_simp; try with_reducible rfl)
          simp only [Act.put, List.setIfInBounds_toArray, List.set_cons_zero, List.set_cons_succ]
          refine wpAnyH_take (i := 3) (v := ?_) (oi := { dst := some 28, op := _, type := _, pos := _, after := _, guard := none }) rfl (by kernel_rfl) (by kernel_rfl) (by kernel_rfl) (fun _ _ _ h => h) (Or.inl ⟨by kernel_rfl, ?_⟩) (by assumption) ?_
          case refine_2 => (intro w9 hSw; have l0 := (hSw.at (wr.heap.size) [.int .i64 D, .string ⟨#[100, 97, 121]⟩] (by simp)).c 0 rfl; have l1 := (hSw.at (wr.heap.size) [.int .i64 D, .string ⟨#[100, 97, 121]⟩] (by simp)).c 1 rfl; clear hSw; go_simp; try with_reducible rfl)
          simp only [Act.put, List.setIfInBounds_toArray, List.set_cons_zero, List.set_cons_succ]
          refine wpAnyH_take (i := 5) (v := ?_) (oi := { dst := some 30, op := _, type := _, pos := _, after := _, guard := none }) rfl (by kernel_rfl) (by kernel_rfl) (by kernel_rfl) (fun _ _ _ h => h) (Or.inl ⟨by kernel_rfl, ?_⟩) (by assumption) ?_
          case refine_2 => (intro w9 hSw; clear hSw; go_simp; try with_reducible rfl)
          simp only [Act.put, List.setIfInBounds_toArray, List.set_cons_zero, List.set_cons_succ]
          refine wpAnyH_take (i := 6) (v := ?_) (oi := { dst := some 31, op := _, type := _, pos := _, after := _, guard := none }) rfl (by kernel_rfl) (by kernel_rfl) (by kernel_rfl) (fun _ _ _ h => h) (Or.inl ⟨by kernel_rfl, ?_⟩) (by assumption) ?_
          case refine_2 => (intro w9 hSw; have l0 := (hSw.at (wr.heap.size) [.int .i64 D, .string ⟨#[100, 97, 121]⟩] (by simp)).c 0 rfl; have l1 := (hSw.at (wr.heap.size) [.int .i64 D, .string ⟨#[100, 97, 121]⟩] (by simp)).c 1 rfl; clear hSw; go_simp; try with_reducible rfl)
          simp only [Act.put, List.setIfInBounds_toArray, List.set_cons_zero, List.set_cons_succ]
          refine wpAnyH_take (i := 8) (v := ?_) (oi := { dst := some 33, op := _, type := _, pos := _, after := _, guard := none }) rfl (by kernel_rfl) (by kernel_rfl) (by kernel_rfl) (fun _ _ _ h => h) (Or.inl ⟨by kernel_rfl, ?_⟩) (by assumption) ?_
          case refine_2 => (intro w9 hSw; clear hSw; go_simp; try with_reducible rfl)
          simp only [Act.put, List.setIfInBounds_toArray, List.set_cons_zero, List.set_cons_succ]
          refine wpAnyH_take (i := 9) (v := ?_) (oi := { dst := some 34, op := _, type := _, pos := _, after := _, guard := none }) rfl (by kernel_rfl) (by kernel_rfl) (by kernel_rfl) (fun _ _ _ h => h) (Or.inl ⟨by kernel_rfl, ?_⟩) (by assumption) ?_
          case refine_2 => (intro w9 hSw; have l0 := (hSw.at (wr.heap.size) [.int .i64 D, .string ⟨#[100, 97, 121]⟩] (by simp)).c 0 rfl; have l1 := (hSw.at (wr.heap.size) [.int .i64 D, .string ⟨#[100, 97, 121]⟩] (by simp)).c 1 rfl; clear hSw; go_simp; try with_reducible rfl)
          simp only [Act.put, List.setIfInBounds_toArray, List.set_cons_zero, List.set_cons_succ]
          refine wpAnyH_take (i := 10) (v := ?_) (oi := { dst := some 35, op := _, type := _, pos := _, after := _, guard := none }) rfl (by kernel_rfl) (by kernel_rfl) (by kernel_rfl) (fun _ _ _ h => h) (Or.inl ⟨by kernel_rfl, ?_⟩) (by assumption) ?_
          case refine_2 => (intro w9 hSw; clear hSw; go_simp; try with_reducible rfl)
          simp only [Act.put, List.setIfInBounds_toArray, List.set_cons_zero, List.set_cons_succ]
          refine wpAnyH_take (i := 11) (v := ?_) (oi := { dst := some 36, op := _, type := _, pos := _, after := _, guard := none }) rfl (by kernel_rfl) (by kernel_rfl) (by kernel_rfl) (fun _ _ _ h => h) (Or.inl ⟨by kernel_rfl, ?_⟩) (by assumption) ?_
          case refine_2 => (intro w9 hSw; have l0 := (hSw.at (wr.heap.size) [.int .i64 D, .string ⟨#[100, 97, 121]⟩] (by simp)).c 0 rfl; have l1 := (hSw.at (wr.heap.size) [.int .i64 D, .string ⟨#[100, 97, 121]⟩] (by simp)).c 1 rfl; clear hSw; go_simp; try with_reducible rfl)
          simp only [Act.put, List.setIfInBounds_toArray, List.set_cons_zero, List.set_cons_succ]
          refine wpAnyH_ready (rs := [4]) (by kernel_rfl) (by simp) (AllReadyH.cons (o := { dst := some 29, op := _, type := _, pos := _, after := _, guard := none }) rfl (fun K hK => ?_) AllReadyH.nil)
          go_simp
          refine (turn_any _ _ _).mono ?_
          rintro e v1 ⟨rfl, hw1⟩
          rw [hw1]
          clear hw1 v1
          refine hK.out _ _ hHeld (fun hHeld => ?_)
          clear hK K
          refine wpAnyH_ready (rs := [7]) (by kernel_rfl) (by simp) (AllReadyH.cons (o := { dst := some 32, op := _, type := _, pos := _, after := _, guard := none }) rfl (fun K hK => ?_) AllReadyH.nil)
          go_simp
          refine (digits_any D (by omega) (by omega) _ (hL.out _ hHeld.1)).mono ?_
          rintro e v2 ⟨rfl, hb2⟩
          refine hK.out _ _ (hHeld.below hb2) (fun hHeld => ?_)
          have HO2 := own_keep HO.out hb2
          clear HO
          have HO : Hid (World.ownsRow _ _ _ _ _ _ _) := HO2
          clear HO2
          clear hK K hb2
          refine wpAnyH_ready (rs := [12]) (by kernel_rfl) (by simp) (AllReadyH.cons (o := { dst := some 37, op := _, type := _, pos := _, after := _, guard := none }) rfl (fun K hK => ?_) AllReadyH.nil)
          go_simp
          refine (many_any _ _).mono ?_
          rintro e v3 ⟨rfl, hw3⟩
          rw [hw3]
          clear hw3 v3
          refine hK.out _ _ hHeld (fun hHeld => ?_)
          clear hK K
          refine wpAnyH_ready (rs := [13]) (by kernel_rfl) (by simp) (AllReadyH.cons (o := { dst := some 38, op := _, type := _, pos := _, after := _, guard := none }) rfl (fun K hK => ?_) AllReadyH.nil)
          go_simp
          refine hK.out _ _ (hHeld.alloc _) (fun hHeld => ?_)
          have HX := bx_held _ hHeld
          have HO2 := own_held hHeld HO
          clear HO
          have HO : Hid (World.ownsRow _ _ _ _ _ _ _) := HO2.out
          clear HO2
          clear hK K
          refine wpAnyH_ready (rs := [14]) (by kernel_rfl) (by simp) (AllReadyH.cons (o := { dst := some 39, op := _, type := _, pos := _, after := _, guard := none }) rfl (fun K hK => ?_) AllReadyH.nil)
          go_simp
          refine (je5 (trn l D) (dg D) ⟨#[32]⟩ ⟨#[100, 97, 121]⟩ (mny D) (Nat.le_trans (trn_size _ _) (by decide)) (Nat.le_trans (dg_size _ (by omega) (by omega)) (by decide)) (by decide) (by decide) (Nat.le_trans (mny_size _) (by decide)) _ _ HX.out).mono ?_
          rintro e v5 ⟨rfl, hb5⟩
          rw [show trn l D ++ dg D ++ ⟨#[32]⟩ ++ ⟨#[100, 97, 121]⟩ ++ mny D = unB D ⟨#[100, 97, 121]⟩ l from rfl]
          refine hK.out _ _ (hHeld.below hb5) (fun hHeld => ?_)
          have HO2 := own_keep HO.out hb5
          clear HO
          have HO : Hid (World.ownsRow _ _ _ _ _ _ _) := HO2
          clear HO2
          clear hK K hb5 HX
          refine wpAnyH_ready (rs := [15]) (by kernel_rfl) (by simp) (AllReadyH.cons (o := { dst := some 40, op := _, type := _, pos := _, after := _, guard := none }) rfl (fun K hK => ?_) AllReadyH.nil)
          go_simp
          refine hK.out _ _ (hHeld.alloc _) (fun hHeld => ?_)
          have HX := bx_held _ hHeld
          have HO2 := own_held hHeld HO
          clear HO
          have HO : Hid (World.ownsRow _ _ _ _ _ _ _) := HO2.out
          clear HO2
          clear hK K
          refine wpAnyH_ready (rs := [16]) (by kernel_rfl) (by simp) (AllReadyH.cons (o := { dst := some 41, op := _, type := _, pos := _, after := _, guard := none }) rfl (fun K hK => ?_) AllReadyH.nil)
          refine (if_pos (by kernel_rfl)).mpr (wp_append_own _ _ _ 57 rfl (w.heap.size + 1) 9 i1 (.string ByteArray.empty) 1 16 Tryz.underlying57 hi1 hy0 hy1 hy2 rfl (by decide) (.slice ao n c) n _ rfl HO.out _ 1 1 [.string (unB D ⟨#[100, 97, 121]⟩ l)] rfl rfl (bx_cells HX.out) (by intro u hu; simp at hu; subst hu; rfl) (by unfold maxLen; omega) (by omega) (by have := (hHeld.at (w.heap.size) [.int .i64 0, .int .i64 M, .int .i64 D, .int .i64 U] (by simp)).1; omega) ?_)
          intro v' w' hown hgr _
          obtain ⟨ao', c', hv'⟩ : ∃ ao' c', v' = .slice ao' (n + 1) c' := by (rcases hown.2 with ⟨e, z⟩ | ⟨g, cap, cur, e, _⟩; (exact absurd z (by omega)); exact ⟨_, _, e⟩)
          subst hv'
          have HB2 : BS w ((wr.heap.size, [.int .i64 D, .string ⟨#[100, 97, 121]⟩]) :: [(w.heap.size, [.int .i64 0, .int .i64 M, .int .i64 D, .int .i64 U])]) w' := bs_grown hHeld (by intro x hx e; have hk := HE.out x.1 e.symm; simp only [List.mem_cons, List.not_mem_nil, or_false] at hx; rcases hx with rfl | rfl; (simp only [] at hk; omega); (simp only [] at hk; omega)) (fun k hk => by have := HE.out k hk; omega) hgr
          refine hK.out _ _ HB2 (fun hHeld => ?_)
          have HN2 : Hid (World.ownsRow w' (w.heap.size + 1) 9 1 (.slice ao' (n + 1) c') (n + 1) (cS ((stN a b D 2).1 ++ [unB D ⟨#[100, 97, 121]⟩ l]))) := by (rw [cS_app]; exact hown)
          clear hK K HO HX hgr hown HB2 HE
          refine wpAnyH_take (i := 17) (v := ?_) (oi := { dst := some 3, op := _, type := _, pos := _, after := _, guard := none }) rfl (by kernel_rfl) (by kernel_rfl) (by kernel_rfl) (fun _ _ _ h => h) (Or.inl ⟨by kernel_rfl, ?_⟩) (by assumption) ?_
          case refine_2 => (intro w9 hSw; clear hSw; go_simp; try with_reducible rfl)
          simp only [Act.put, List.setIfInBounds_toArray, List.set_cons_zero, List.set_cons_succ]
          refine wpAnyH_done (by kernel_rfl) ?_ _
          have HB9 : Hid (BS w ((wr.heap.size, [.int .i64 D, .string ⟨#[100, 97, 121]⟩]) :: [(w.heap.size, [.int .i64 0, .int .i64 M, .int .i64 D, .int .i64 U])]) _) := hHeld
          clear hHeld
          obtain ⟨e0, e1⟩ := (bo1 HB9).c2
          go_wp2_with fail
          go_roundw
          case rel => exact ⟨2 + 1, n + 1, c', ao', by go_num, by omega, by omega, rfl, by rw [est2.out], by (show _ = _; rw [est2.out, List.length_append, HN.out]; rfl), HB9.out.tail, by (rw [est2.out]; exact HN2)⟩
          case measure => simp [intOf]
    · have hlt' : ¬ (i : Int) < 3 := by omega
      obtain rfl : i = 3 := by omega
      have hszL := stN_sz a b D a1 a9 b1 b9 D1 D9
      obtain ⟨c0, c1, c2, c3⟩ := (bo1 HB).c4
      obtain ⟨lq, hlq⟩ : ∃ lq, (stN a b D 3).2 = lq := ⟨_, rfl⟩
      rw [hlq]
      have hn0 : 0 < n := by have := HN.out; have := HW.out; omega
      have n0 : ((n : Int) == 0) = false := by simp; omega
      obtain ⟨a0, rfl, hcc, htx⟩ := own_txt HO.out HN.out hn0
      have HTX : Hid (∀ j t, (stN a b D 3).1[j]? = some t → wr.cell? (a0.add j) = some (.string t)) := htx
      have HBF : Hid (BS w [(w.heap.size, [.int .i64 0, .int .i64 M, .int .i64 D, .int .i64 U])] wr) := HB
      clear htx HO HB
      obtain ⟨LL, hLq⟩ : ∃ LL, (stN a b D 3).1 = LL := ⟨_, rfl⟩
      have hLL : LL.length = n := by rw [← hLq]; exact HN.out
      have hzz : szL LL ≤ 5000 := by rw [← hLq]; omega
      rw [hLq] at HTX
      have HLQ : Hid ((stN a b D 3).1 = LL) := hLq
      clear hLq
      go_wp2_with fail
      refine (joined_any ⟨#[32]⟩ LL a0 n c hLL (by omega) (by omega) hcc (by decide) hzz _ HTX).mono ?_
      rintro e wf ⟨rfl, hbf⟩
      have HF : Hid (Below w.heap.size w wf) := HBF.out.1.trans (hbf.mono HBF.out.1.size)
      clear hbf HBF
      go_wp2
      go_ret
      exact ⟨by rw [HLQ.out]; rfl, HF.out⟩

theorem long_size (us : Int) (h1 : -9223372036854775808 ≤ us) (h2 : us ≤ 9223372036854775807) : (Clk.longB us).size ≤ 100 := by
  have key : ∀ h m s u : Int, (h.natAbs < 4000000000000000000 ∧ m.natAbs < 100 ∧ s.natAbs < 100) → (Clk.faceB h m s u).size ≤ 80 := by
    intro h m s u ⟨k1, k2, k3⟩
    have e1 := Clk.twoB_size (n := h) (by omega) (by omega)
    have e2 := Clk.twoB_size (n := m) (by omega) (by omega)
    have e3 := Clk.twoB_size (n := s) (by omega) (by omega)
    have e4 := Clk.fracB_size u
    have e5 : (⟨#[58]⟩ : ByteArray).size = 1 := rfl
    unfold Clk.faceB
    rw [ba_size, ba_size, ba_size, ba_size, ba_size]
    omega
  have t1 : (us.tdiv 3600000000).natAbs < 4000000000000000000 := by rw [Int.natAbs_tdiv]; show us.natAbs / 3600000000 < _; omega
  have t2 : ((us.tdiv 60000000).tmod 60).natAbs < 100 := by rw [Int.natAbs_tmod]; exact Nat.lt_trans (Nat.mod_lt _ (by decide)) (by decide)
  have t3 : ((us.tdiv 1000000).tmod 60).natAbs < 100 := by rw [Int.natAbs_tmod]; exact Nat.lt_trans (Nat.mod_lt _ (by decide)) (by decide)
  unfold Clk.longB
  split
  · rw [ba_size]
    have := key (-(us.tdiv 3600000000)) (-((us.tdiv 60000000).tmod 60)) (-((us.tdiv 1000000).tmod 60)) (-(us.tmod 1000000)) ⟨by omega, by omega, by omega⟩
    have e5 : (⟨#[45]⟩ : ByteArray).size = 1 := rfl
    omega
  · have := key (us.tdiv 3600000000) ((us.tdiv 60000000).tmod 60) ((us.tdiv 1000000).tmod 60) (us.tmod 1000000) ⟨by omega, by omega, by omega⟩
    omega
def tmB (l u : Int) : ByteArray := trn l u ++ Clk.longB u

set_option maxRecDepth 100000 in
set_option maxHeartbeats 8000000 in
theorem iw_t (M D U a b : Int) (ha : M.tdiv 12 = a) (hb : M.tmod 12 = b) (a1 : -9223372036854775808 ≤ a) (a9 : a ≤ 9223372036854775807) (b1 : -9223372036854775808 ≤ b) (b9 : b ≤ 9223372036854775807) (D1 : -9223372036854775808 ≤ D) (D9 : D ≤ 9223372036854775807) (U1 : -9223372036854775808 ≤ U) (U9 : U ≤ 9223372036854775807) (hU : (U != 0) = true)
    (w : World) (hL : Hid (∀ W : World, Below w.heap.size w W → Clk.Tab W)) :
    Calls Tryz.prog 37 #[.agg #[.int .i64 0, .int .i64 M, .int .i64 D, .int .i64 U]] w fun r' w' => r' = .returned (.string (jn ⟨#[32]⟩ ((stN a b D 3).1 ++ [tmB (stN a b D 3).2 U]))) ∧ Below w.heap.size w w' := by
  have K0 : Hid (BS w [(w.heap.size, [.int .i64 0, .int .i64 M, .int .i64 D, .int .i64 U])] (w.alloc (.cells #[.int .i64 0, .int .i64 M, .int .i64 D, .int .i64 U] 40))) := (BS.start w).new _ _ rfl
  have wa : IntKind.i64.wrap a = a := by rw [IntKind.wrap_i64]; omega
  have wb : IntKind.i64.wrap b = b := by rw [IntKind.wrap_i64]; omega
  obtain ⟨i1, hi1, hy0, hy1, hy2⟩ := info_parts infoS9
  go_enter Tryz.func37, Tryz.ntmps37
  go_upto_region 3 with fail
  refine bs_to K0 ?_
  clear K0
  intro W0 K0
  obtain ⟨c0, c1, c2, c3⟩ := (bo1 K0).c4
  go_wp2_with fail
  go_loopw [3, 4, 19] (fun wv lv iv wr => ∃ (i n c : Nat) (ao : Option Addr), iv = .int .i64 (i : Int) ∧ i ≤ 3 ∧ n ≤ 3 ∧ wv = .slice ao n c ∧ lv = .int .i64 (stN a b D i).2 ∧ Hid ((stN a b D i).1.length = n) ∧ Hid (BS w [(w.heap.size, [.int .i64 0, .int .i64 M, .int .i64 D, .int .i64 U])] wr) ∧ Hid (wr.ownsRow (w.heap.size + 1) 9 1 (.slice ao n c) n (cS (stN a b D i).1))) (fun _ _ iv _ => 3 - (intOf iv).toNat)
  case atStart => exact ⟨0, 0, 0, none, rfl, by decide, by decide, rfl, rfl, rfl, K0, World.ownsRow_nil _ _ _ _⟩
  case round =>
    clear K0 c0 c1 c2 c3
    obtain ⟨i, n, c, ao, rfl, hi, hn3, rfl, rfl, HN, HB, HO⟩ := hrel
    have hsz : w.heap.size + 1 ≤ wr.heap.size := (bo1 HB).1
    by_cases hlt : i < 3
    · have hN1 : n ≤ i := by have := stN_len a b D i hi; have := HN.out; omega
      obtain rfl | rfl | rfl : i = 0 ∨ i = 1 ∨ i = 2 := by omega
      · have est : stN a b D (0 + 1) = stW a ⟨#[121, 101, 97, 114]⟩ (stN a b D 0) := rfl
        obtain ⟨l, hl⟩ : ∃ l, (stN a b D 0).2 = l := ⟨_, rfl⟩
        rw [hl]
        have Mz := bsn HB [.int .i64 a, .string ⟨#[121, 101, 97, 114]⟩] 100
        have HO1 : Hid ((wr.alloc (.cells #[.int .i64 a, .string ⟨#[121, 101, 97, 114]⟩] 100)).ownsRow (w.heap.size + 1) 9 1 (.slice ao n c) n (cS (stN a b D 0).1)) := HO.out.alloc _
        have hix : ∀ w : World, (Instr.index 101 (.agg #[.int .i64 a, .string ⟨#[121, 101, 97, 114]⟩, .int .i64 b, .string ⟨#[109, 111, 110]⟩, .int .i64 D, .string ⟨#[100, 97, 121]⟩]) (.int .i64 ((0 : Nat) : Int))).run Tryz.prog w = .ok (.agg #[.int .i64 a, .string ⟨#[121, 101, 97, 114]⟩]) w := fun w => by kernel_rfl
        have hix2 : ∀ w : World, (Instr.index 101 (.agg #[.int .i64 a, .string ⟨#[121, 101, 97, 114]⟩, .int .i64 b, .string ⟨#[109, 111, 110]⟩, .int .i64 D, .string ⟨#[100, 97, 121]⟩]) (.int .i64 0)).run Tryz.prog w = .ok (.agg #[.int .i64 a, .string ⟨#[121, 101, 97, 114]⟩]) w := fun w => by kernel_rfl
        by_cases hz : a = 0
        · have est2 : Hid (stN a b D (0 + 1) = stN a b D 0) := by show _ = _; rw [est]; unfold stW; rw [if_pos hz]
          have z1 : (a == 0) = true := by simpa using hz
          clear hz est
          go_upto_region 6 with fail
          refine gen_to (fun V => Hid (BS w ((wr.heap.size, [.int .i64 a, .string ⟨#[121, 101, 97, 114]⟩]) :: [(w.heap.size, [.int .i64 0, .int .i64 M, .int .i64 D, .int .i64 U])]) V) ∧ Hid (V.ownsRow (w.heap.size + 1) 9 1 (.slice ao n c) n (cS (stN a b D 0).1))) ⟨Mz, HO1⟩ ?_
          clear Mz HO1 HB HO
          rintro V ⟨HB, HO⟩
          obtain ⟨d0, d1⟩ := (bo1 HB).c2
          go_wp2_with fail
          go_roundw
          case rel => exact ⟨0 + 1, n, c, ao, by go_num, by omega, hn3, rfl, by rw [est2.out, hl], by rw [est2.out]; exact HN, HB.out.tail, by rw [est2.out]; exact HO⟩
          case measure => simp [intOf]
        · have est2 : Hid (stN a b D (0 + 1) = ((stN a b D 0).1 ++ [unB a ⟨#[121, 101, 97, 114]⟩ l], a)) := by show _ = _; rw [est]; unfold stW; rw [if_neg hz, hl]
          have z1 : (a == 0) = false := by simpa using hz
          have HE : Hid (∀ k, (Value.slice ao n c).ownBlock = some k → w.heap.size + 1 ≤ k ∧ k < wr.heap.size) := fun k hk => HO.out.lt k hk
          clear hz est
          go_upto_region 6 with fail
          refine gen_to (fun V => Hid (BS w ((wr.heap.size, [.int .i64 a, .string ⟨#[121, 101, 97, 114]⟩]) :: [(w.heap.size, [.int .i64 0, .int .i64 M, .int .i64 D, .int .i64 U])]) V) ∧ Hid (V.ownsRow (w.heap.size + 1) 9 1 (.slice ao n c) n (cS (stN a b D 0).1))) ⟨Mz, HO1⟩ ?_
          clear Mz HO1 HB HO
          rintro V ⟨HB, HO⟩
          obtain ⟨d0, d1⟩ := (bo1 HB).c2
          go_upto_region 7 with fail
          have HO2 := HO.out.drew
          clear HO
          have HO : Hid (V.drew.ownsRow (w.heap.size + 1) 9 1 (.slice ao n c) n (cS (stN a b D 0).1)) := HO2
          clear HO2
          refine wp_region_held_drew (S := BS w ((wr.heap.size, [.int .i64 a, .string ⟨#[121, 101, 97, 114]⟩]) :: [(w.heap.size, [.int .i64 0, .int .i64 M, .int .i64 D, .int .i64 U])])) (by kernel_rfl) HB.out.drew (fun hHeld => ?_)
          refine wpAnyH_take (i := 0) (v := ?_) (oi := { dst := some 25, op := _, type := _, pos := _, after := _, guard := none }) rfl (by kernel_rfl) (by kernel_rfl) (by kernel_rfl) (fun _ _ _ h => h) (Or.inl ⟨by kernel_rfl, ?_⟩) (by assumption) ?_
          case refine_2 => (intro w9 hSw; clear hSw; go_simp; try with_reducible rfl)
          simp only [Act.put, List.setIfInBounds_toArray, List.set_cons_zero, List.set_cons_succ]
          refine wpAnyH_take (i := 1) (v := ?_) (oi := { dst := some 26, op := _, type := _, pos := _, after := _, guard := none }) rfl (by kernel_rfl) (by kernel_rfl) (by kernel_rfl) (fun _ _ _ h => h) (Or.inl ⟨by kernel_rfl, ?_⟩) (by assumption) ?_
          case refine_2 => (intro w9 hSw; clear hSw; go_simp; try with_reducible rfl)
          simp only [Act.put, List.setIfInBounds_toArray, List.set_cons_zero, List.set_cons_succ]
          refine wpAnyH_take (i := 2) (v := ?_) (oi := { dst := some 27, op := _, type := _, pos := _, after := _, guard := none }) rfl (by kernel_rfl) (by kernel_rfl) (by kernel_rfl) (fun _ _ _ h => h) (Or.inl ⟨by kernel_rfl, ?_⟩) (by assumption) ?_
          case refine_2 => (intro w9 hSw; clear hSw; go_simp; try with_reducible rfl)
          simp only [Act.put, List.setIfInBounds_toArray, List.set_cons_zero, List.set_cons_succ]
          refine wpAnyH_take (i := 3) (v := ?_) (oi := { dst := some 28, op := _, type := _, pos := _, after := _, guard := none }) rfl (by kernel_rfl) (by kernel_rfl) (by kernel_rfl) (fun _ _ _ h => h) (Or.inl ⟨by kernel_rfl, ?_⟩) (by assumption) ?_
          case refine_2 => (intro w9 hSw; have l0 := (hSw.at (wr.heap.size) [.int .i64 a, .string ⟨#[121, 101, 97, 114]⟩] (by simp)).c 0 rfl; have l1 := (hSw.at (wr.heap.size) [.int .i64 a, .string ⟨#[121, 101, 97, 114]⟩] (by simp)).c 1 rfl; clear hSw; go_simp; try with_reducible rfl)
          simp only [Act.put, List.setIfInBounds_toArray, List.set_cons_zero, List.set_cons_succ]
          refine wpAnyH_take (i := 5) (v := ?_) (oi := { dst := some 30, op := _, type := _, pos := _, after := _, guard := none }) rfl (by kernel_rfl) (by kernel_rfl) (by kernel_rfl) (fun _ _ _ h => h) (Or.inl ⟨by kernel_rfl, ?_⟩) (by assumption) ?_
          case refine_2 => (intro w9 hSw; clear hSw; go_simp; try with_reducible rfl)
          simp only [Act.put, List.setIfInBounds_toArray, List.set_cons_zero, List.set_cons_succ]
          refine wpAnyH_take (i := 6) (v := ?_) (oi := { dst := some 31, op := _, type := _, pos := _, after := _, guard := none }) rfl (by kernel_rfl) (by kernel_rfl) (by kernel_rfl) (fun _ _ _ h => h) (Or.inl ⟨by kernel_rfl, ?_⟩) (by assumption) ?_
          case refine_2 => (intro w9 hSw; have l0 := (hSw.at (wr.heap.size) [.int .i64 a, .string ⟨#[121, 101, 97, 114]⟩] (by simp)).c 0 rfl; have l1 := (hSw.at (wr.heap.size) [.int .i64 a, .string ⟨#[121, 101, 97, 114]⟩] (by simp)).c 1 rfl; clear hSw; go_simp; try with_reducible rfl)
          simp only [Act.put, List.setIfInBounds_toArray, List.set_cons_zero, List.set_cons_succ]
          refine wpAnyH_take (i := 8) (v := ?_) (oi := { dst := some 33, op := _, type := _, pos := _, after := _, guard := none }) rfl (by kernel_rfl) (by kernel_rfl) (by kernel_rfl) (fun _ _ _ h => h) (Or.inl ⟨by kernel_rfl, ?_⟩) (by assumption) ?_
          case refine_2 => (intro w9 hSw; clear hSw; go_simp; try with_reducible rfl)
          simp only [Act.put, List.setIfInBounds_toArray, List.set_cons_zero, List.set_cons_succ]
          refine wpAnyH_take (i := 9) (v := ?_) (oi := { dst := some 34, op := _, type := _, pos := _, after := _, guard := none }) rfl (by kernel_rfl) (by kernel_rfl) (by kernel_rfl) (fun _ _ _ h => h) (Or.inl ⟨by kernel_rfl, ?_⟩) (by assumption) ?_
          case refine_2 => (intro w9 hSw; have l0 := (hSw.at (wr.heap.size) [.int .i64 a, .string ⟨#[121, 101, 97, 114]⟩] (by simp)).c 0 rfl; have l1 := (hSw.at (wr.heap.size) [.int .i64 a, .string ⟨#[121, 101, 97, 114]⟩] (by simp)).c 1 rfl; clear hSw; go_simp; try with_reducible rfl)
          simp only [Act.put, List.setIfInBounds_toArray, List.set_cons_zero, List.set_cons_succ]
          refine wpAnyH_take (i := 10) (v := ?_) (oi := { dst := some 35, op := _, type := _, pos := _, after := _, guard := none }) rfl (by kernel_rfl) (by kernel_rfl) (by kernel_rfl) (fun _ _ _ h => h) (Or.inl ⟨by kernel_rfl, ?_⟩) (by assumption) ?_
          case refine_2 => (intro w9 hSw; clear hSw; go_simp; try with_reducible rfl)
          simp only [Act.put, List.setIfInBounds_toArray, List.set_cons_zero, List.set_cons_succ]
          refine wpAnyH_take (i := 11) (v := ?_) (oi := { dst := some 36, op := _, type := _, pos := _, after := _, guard := none }) rfl (by kernel_rfl) (by kernel_rfl) (by kernel_rfl) (fun _ _ _ h => h) (Or.inl ⟨by kernel_rfl, ?_⟩) (by assumption) ?_
          case refine_2 => (intro w9 hSw; have l0 := (hSw.at (wr.heap.size) [.int .i64 a, .string ⟨#[121, 101, 97, 114]⟩] (by simp)).c 0 rfl; have l1 := (hSw.at (wr.heap.size) [.int .i64 a, .string ⟨#[121, 101, 97, 114]⟩] (by simp)).c 1 rfl; clear hSw; go_simp; try with_reducible rfl)
          simp only [Act.put, List.setIfInBounds_toArray, List.set_cons_zero, List.set_cons_succ]
          refine wpAnyH_ready (rs := [4]) (by kernel_rfl) (by simp) (AllReadyH.cons (o := { dst := some 29, op := _, type := _, pos := _, after := _, guard := none }) rfl (fun K hK => ?_) AllReadyH.nil)
          go_simp
          refine (turn_any _ _ _).mono ?_
          rintro e v1 ⟨rfl, hw1⟩
          rw [hw1]
          clear hw1 v1
          refine hK.out _ _ hHeld (fun hHeld => ?_)
          clear hK K
          refine wpAnyH_ready (rs := [7]) (by kernel_rfl) (by simp) (AllReadyH.cons (o := { dst := some 32, op := _, type := _, pos := _, after := _, guard := none }) rfl (fun K hK => ?_) AllReadyH.nil)
          go_simp
          refine (digits_any a (by omega) (by omega) _ (hL.out _ hHeld.1)).mono ?_
          rintro e v2 ⟨rfl, hb2⟩
          refine hK.out _ _ (hHeld.below hb2) (fun hHeld => ?_)
          have HO2 := own_keep HO.out hb2
          clear HO
          have HO : Hid (World.ownsRow _ _ _ _ _ _ _) := HO2
          clear HO2
          clear hK K hb2
          refine wpAnyH_ready (rs := [12]) (by kernel_rfl) (by simp) (AllReadyH.cons (o := { dst := some 37, op := _, type := _, pos := _, after := _, guard := none }) rfl (fun K hK => ?_) AllReadyH.nil)
          go_simp
          refine (many_any _ _).mono ?_
          rintro e v3 ⟨rfl, hw3⟩
          rw [hw3]
          clear hw3 v3
          refine hK.out _ _ hHeld (fun hHeld => ?_)
          clear hK K
          refine wpAnyH_ready (rs := [13]) (by kernel_rfl) (by simp) (AllReadyH.cons (o := { dst := some 38, op := _, type := _, pos := _, after := _, guard := none }) rfl (fun K hK => ?_) AllReadyH.nil)
          go_simp
          refine hK.out _ _ (hHeld.alloc _) (fun hHeld => ?_)
          have HX := bx_held _ hHeld
          have HO2 := own_held hHeld HO
          clear HO
          have HO : Hid (World.ownsRow _ _ _ _ _ _ _) := HO2.out
          clear HO2
          clear hK K
          refine wpAnyH_ready (rs := [14]) (by kernel_rfl) (by simp) (AllReadyH.cons (o := { dst := some 39, op := _, type := _, pos := _, after := _, guard := none }) rfl (fun K hK => ?_) AllReadyH.nil)
          go_simp
          refine (je5 (trn l a) (dg a) ⟨#[32]⟩ ⟨#[121, 101, 97, 114]⟩ (mny a) (Nat.le_trans (trn_size _ _) (by decide)) (Nat.le_trans (dg_size _ (by omega) (by omega)) (by decide)) (by decide) (by decide) (Nat.le_trans (mny_size _) (by decide)) _ _ HX.out).mono ?_
          rintro e v5 ⟨rfl, hb5⟩
          rw [show trn l a ++ dg a ++ ⟨#[32]⟩ ++ ⟨#[121, 101, 97, 114]⟩ ++ mny a = unB a ⟨#[121, 101, 97, 114]⟩ l from rfl]
          refine hK.out _ _ (hHeld.below hb5) (fun hHeld => ?_)
          have HO2 := own_keep HO.out hb5
          clear HO
          have HO : Hid (World.ownsRow _ _ _ _ _ _ _) := HO2
          clear HO2
          clear hK K hb5 HX
          refine wpAnyH_ready (rs := [15]) (by kernel_rfl) (by simp) (AllReadyH.cons (o := { dst := some 40, op := _, type := _, pos := _, after := _, guard := none }) rfl (fun K hK => ?_) AllReadyH.nil)
          go_simp
          refine hK.out _ _ (hHeld.alloc _) (fun hHeld => ?_)
          have HX := bx_held _ hHeld
          have HO2 := own_held hHeld HO
          clear HO
          have HO : Hid (World.ownsRow _ _ _ _ _ _ _) := HO2.out
          clear HO2
          clear hK K
          refine wpAnyH_ready (rs := [16]) (by kernel_rfl) (by simp) (AllReadyH.cons (o := { dst := some 41, op := _, type := _, pos := _, after := _, guard := none }) rfl (fun K hK => ?_) AllReadyH.nil)
          refine (if_pos (by kernel_rfl)).mpr (wp_append_own _ _ _ 57 rfl (w.heap.size + 1) 9 i1 (.string ByteArray.empty) 1 16 Tryz.underlying57 hi1 hy0 hy1 hy2 rfl (by decide) (.slice ao n c) n _ rfl HO.out _ 1 1 [.string (unB a ⟨#[121, 101, 97, 114]⟩ l)] rfl rfl (bx_cells HX.out) (by intro u hu; simp at hu; subst hu; rfl) (by unfold maxLen; omega) (by omega) (by have := (hHeld.at (w.heap.size) [.int .i64 0, .int .i64 M, .int .i64 D, .int .i64 U] (by simp)).1; omega) ?_)
          intro v' w' hown hgr _
          obtain ⟨ao', c', hv'⟩ : ∃ ao' c', v' = .slice ao' (n + 1) c' := by (rcases hown.2 with ⟨e, z⟩ | ⟨g, cap, cur, e, _⟩; (exact absurd z (by omega)); exact ⟨_, _, e⟩)
          subst hv'
          have HB2 : BS w ((wr.heap.size, [.int .i64 a, .string ⟨#[121, 101, 97, 114]⟩]) :: [(w.heap.size, [.int .i64 0, .int .i64 M, .int .i64 D, .int .i64 U])]) w' := bs_grown hHeld (by intro x hx e; have hk := HE.out x.1 e.symm; simp only [List.mem_cons, List.not_mem_nil, or_false] at hx; rcases hx with rfl | rfl; (simp only [] at hk; omega); (simp only [] at hk; omega)) (fun k hk => by have := HE.out k hk; omega) hgr
          refine hK.out _ _ HB2 (fun hHeld => ?_)
          have HN2 : Hid (World.ownsRow w' (w.heap.size + 1) 9 1 (.slice ao' (n + 1) c') (n + 1) (cS ((stN a b D 0).1 ++ [unB a ⟨#[121, 101, 97, 114]⟩ l]))) := by (rw [cS_app]; exact hown)
          clear hK K HO HX hgr hown HB2 HE
          refine wpAnyH_take (i := 17) (v := ?_) (oi := { dst := some 3, op := _, type := _, pos := _, after := _, guard := none }) rfl (by kernel_rfl) (by kernel_rfl) (by kernel_rfl) (fun _ _ _ h => h) (Or.inl ⟨by kernel_rfl, ?_⟩) (by assumption) ?_
          case refine_2 => (intro w9 hSw; clear hSw; go_simp; try with_reducible rfl)
          simp only [Act.put, List.setIfInBounds_toArray, List.set_cons_zero, List.set_cons_succ]
          refine wpAnyH_done (by kernel_rfl) ?_ _
          have HB9 : Hid (BS w ((wr.heap.size, [.int .i64 a, .string ⟨#[121, 101, 97, 114]⟩]) :: [(w.heap.size, [.int .i64 0, .int .i64 M, .int .i64 D, .int .i64 U])]) _) := hHeld
          clear hHeld
          obtain ⟨e0, e1⟩ := (bo1 HB9).c2
          go_wp2_with fail
          go_roundw
          case rel => exact ⟨0 + 1, n + 1, c', ao', by go_num, by omega, by omega, rfl, by rw [est2.out], by (show _ = _; rw [est2.out, List.length_append, HN.out]; rfl), HB9.out.tail, by (rw [est2.out]; exact HN2)⟩
          case measure => simp [intOf]
      · have est : stN a b D (1 + 1) = stW b ⟨#[109, 111, 110]⟩ (stN a b D 1) := rfl
        obtain ⟨l, hl⟩ : ∃ l, (stN a b D 1).2 = l := ⟨_, rfl⟩
        rw [hl]
        have Mz := bsn HB [.int .i64 b, .string ⟨#[109, 111, 110]⟩] 100
        have HO1 : Hid ((wr.alloc (.cells #[.int .i64 b, .string ⟨#[109, 111, 110]⟩] 100)).ownsRow (w.heap.size + 1) 9 1 (.slice ao n c) n (cS (stN a b D 1).1)) := HO.out.alloc _
        have hix : ∀ w : World, (Instr.index 101 (.agg #[.int .i64 a, .string ⟨#[121, 101, 97, 114]⟩, .int .i64 b, .string ⟨#[109, 111, 110]⟩, .int .i64 D, .string ⟨#[100, 97, 121]⟩]) (.int .i64 ((1 : Nat) : Int))).run Tryz.prog w = .ok (.agg #[.int .i64 b, .string ⟨#[109, 111, 110]⟩]) w := fun w => by kernel_rfl
        have hix2 : ∀ w : World, (Instr.index 101 (.agg #[.int .i64 a, .string ⟨#[121, 101, 97, 114]⟩, .int .i64 b, .string ⟨#[109, 111, 110]⟩, .int .i64 D, .string ⟨#[100, 97, 121]⟩]) (.int .i64 1)).run Tryz.prog w = .ok (.agg #[.int .i64 b, .string ⟨#[109, 111, 110]⟩]) w := fun w => by kernel_rfl
        by_cases hz : b = 0
        · have est2 : Hid (stN a b D (1 + 1) = stN a b D 1) := by show _ = _; rw [est]; unfold stW; rw [if_pos hz]
          have z1 : (b == 0) = true := by simpa using hz
          clear hz est
          go_upto_region 6 with fail
          refine gen_to (fun V => Hid (BS w ((wr.heap.size, [.int .i64 b, .string ⟨#[109, 111, 110]⟩]) :: [(w.heap.size, [.int .i64 0, .int .i64 M, .int .i64 D, .int .i64 U])]) V) ∧ Hid (V.ownsRow (w.heap.size + 1) 9 1 (.slice ao n c) n (cS (stN a b D 1).1))) ⟨Mz, HO1⟩ ?_
          clear Mz HO1 HB HO
          rintro V ⟨HB, HO⟩
          obtain ⟨d0, d1⟩ := (bo1 HB).c2
          go_wp2_with fail
          go_roundw
          case rel => exact ⟨1 + 1, n, c, ao, by go_num, by omega, hn3, rfl, by rw [est2.out, hl], by rw [est2.out]; exact HN, HB.out.tail, by rw [est2.out]; exact HO⟩
          case measure => simp [intOf]
        · have est2 : Hid (stN a b D (1 + 1) = ((stN a b D 1).1 ++ [unB b ⟨#[109, 111, 110]⟩ l], b)) := by show _ = _; rw [est]; unfold stW; rw [if_neg hz, hl]
          have z1 : (b == 0) = false := by simpa using hz
          have HE : Hid (∀ k, (Value.slice ao n c).ownBlock = some k → w.heap.size + 1 ≤ k ∧ k < wr.heap.size) := fun k hk => HO.out.lt k hk
          clear hz est
          go_upto_region 6 with fail
          refine gen_to (fun V => Hid (BS w ((wr.heap.size, [.int .i64 b, .string ⟨#[109, 111, 110]⟩]) :: [(w.heap.size, [.int .i64 0, .int .i64 M, .int .i64 D, .int .i64 U])]) V) ∧ Hid (V.ownsRow (w.heap.size + 1) 9 1 (.slice ao n c) n (cS (stN a b D 1).1))) ⟨Mz, HO1⟩ ?_
          clear Mz HO1 HB HO
          rintro V ⟨HB, HO⟩
          obtain ⟨d0, d1⟩ := (bo1 HB).c2
          go_upto_region 7 with fail
          have HO2 := HO.out.drew
          clear HO
          have HO : Hid (V.drew.ownsRow (w.heap.size + 1) 9 1 (.slice ao n c) n (cS (stN a b D 1).1)) := HO2
          clear HO2
          refine wp_region_held_drew (S := BS w ((wr.heap.size, [.int .i64 b, .string ⟨#[109, 111, 110]⟩]) :: [(w.heap.size, [.int .i64 0, .int .i64 M, .int .i64 D, .int .i64 U])])) (by kernel_rfl) HB.out.drew (fun hHeld => ?_)
          refine wpAnyH_take (i := 0) (v := ?_) (oi := { dst := some 25, op := _, type := _, pos := _, after := _, guard := none }) rfl (by kernel_rfl) (by kernel_rfl) (by kernel_rfl) (fun _ _ _ h => h) (Or.inl ⟨by kernel_rfl, ?_⟩) (by assumption) ?_
          case refine_2 => (intro w9 hSw; clear hSw; go_simp; try with_reducible rfl)
          simp only [Act.put, List.setIfInBounds_toArray, List.set_cons_zero, List.set_cons_succ]
          refine wpAnyH_take (i := 1) (v := ?_) (oi := { dst := some 26, op := _, type := _, pos := _, after := _, guard := none }) rfl (by kernel_rfl) (by kernel_rfl) (by kernel_rfl) (fun _ _ _ h => h) (Or.inl ⟨by kernel_rfl, ?_⟩) (by assumption) ?_
          case refine_2 => (intro w9 hSw; clear hSw; go_simp; try with_reducible rfl)
          simp only [Act.put, List.setIfInBounds_toArray, List.set_cons_zero, List.set_cons_succ]
          refine wpAnyH_take (i := 2) (v := ?_) (oi := { dst := some 27, op := _, type := _, pos := _, after := _, guard := none }) rfl (by kernel_rfl) (by kernel_rfl) (by kernel_rfl) (fun _ _ _ h => h) (Or.inl ⟨by kernel_rfl, ?_⟩) (by assumption) ?_
          case refine_2 => (intro w9 hSw; clear hSw; go_simp; try with_reducible rfl)
          simp only [Act.put, List.setIfInBounds_toArray, List.set_cons_zero, List.set_cons_succ]
          refine wpAnyH_take (i := 3) (v := ?_) (oi := { dst := some 28, op := _, type := _, pos := _, after := _, guard := none }) rfl (by kernel_rfl) (by kernel_rfl) (by kernel_rfl) (fun _ _ _ h => h) (Or.inl ⟨by kernel_rfl, ?_⟩) (by assumption) ?_
          case refine_2 => (intro w9 hSw; have l0 := (hSw.at (wr.heap.size) [.int .i64 b, .string ⟨#[109, 111, 110]⟩] (by simp)).c 0 rfl; have l1 := (hSw.at (wr.heap.size) [.int .i64 b, .string ⟨#[109, 111, 110]⟩] (by simp)).c 1 rfl; clear hSw; go_simp; try with_reducible rfl)
          simp only [Act.put, List.setIfInBounds_toArray, List.set_cons_zero, List.set_cons_succ]
          refine wpAnyH_take (i := 5) (v := ?_) (oi := { dst := some 30, op := _, type := _, pos := _, after := _, guard := none }) rfl (by kernel_rfl) (by kernel_rfl) (by kernel_rfl) (fun _ _ _ h => h) (Or.inl ⟨by kernel_rfl, ?_⟩) (by assumption) ?_
          case refine_2 => (intro w9 hSw; clear hSw; go_simp; try with_reducible rfl)
          simp only [Act.put, List.setIfInBounds_toArray, List.set_cons_zero, List.set_cons_succ]
          refine wpAnyH_take (i := 6) (v := ?_) (oi := { dst := some 31, op := _, type := _, pos := _, after := _, guard := none }) rfl (by kernel_rfl) (by kernel_rfl) (by kernel_rfl) (fun _ _ _ h => h) (Or.inl ⟨by kernel_rfl, ?_⟩) (by assumption) ?_
          case refine_2 => (intro w9 hSw; have l0 := (hSw.at (wr.heap.size) [.int .i64 b, .string ⟨#[109, 111, 110]⟩] (by simp)).c 0 rfl; have l1 := (hSw.at (wr.heap.size) [.int .i64 b, .string ⟨#[109, 111, 110]⟩] (by simp)).c 1 rfl; clear hSw; go_simp; try with_reducible rfl)
          simp only [Act.put, List.setIfInBounds_toArray, List.set_cons_zero, List.set_cons_succ]
          refine wpAnyH_take (i := 8) (v := ?_) (oi := { dst := some 33, op := _, type := _, pos := _, after := _, guard := none }) rfl (by kernel_rfl) (by kernel_rfl) (by kernel_rfl) (fun _ _ _ h => h) (Or.inl ⟨by kernel_rfl, ?_⟩) (by assumption) ?_
          case refine_2 => (intro w9 hSw; clear hSw; go_simp; try with_reducible rfl)
          simp only [Act.put, List.setIfInBounds_toArray, List.set_cons_zero, List.set_cons_succ]
          refine wpAnyH_take (i := 9) (v := ?_) (oi := { dst := some 34, op := _, type := _, pos := _, after := _, guard := none }) rfl (by kernel_rfl) (by kernel_rfl) (by kernel_rfl) (fun _ _ _ h => h) (Or.inl ⟨by kernel_rfl, ?_⟩) (by assumption) ?_
          case refine_2 => (intro w9 hSw; have l0 := (hSw.at (wr.heap.size) [.int .i64 b, .string ⟨#[109, 111, 110]⟩] (by simp)).c 0 rfl; have l1 := (hSw.at (wr.heap.size) [.int .i64 b, .string ⟨#[109, 111, 110]⟩] (by simp)).c 1 rfl; clear hSw; go_simp; try with_reducible rfl)
          simp only [Act.put, List.setIfInBounds_toArray, List.set_cons_zero, List.set_cons_succ]
          refine wpAnyH_take (i := 10) (v := ?_) (oi := { dst := some 35, op := _, type := _, pos := _, after := _, guard := none }) rfl (by kernel_rfl) (by kernel_rfl) (by kernel_rfl) (fun _ _ _ h => h) (Or.inl ⟨by kernel_rfl, ?_⟩) (by assumption) ?_
          case refine_2 => (intro w9 hSw; clear hSw; go_simp; try with_reducible rfl)
          simp only [Act.put, List.setIfInBounds_toArray, List.set_cons_zero, List.set_cons_succ]
          refine wpAnyH_take (i := 11) (v := ?_) (oi := { dst := some 36, op := _, type := _, pos := _, after := _, guard := none }) rfl (by kernel_rfl) (by kernel_rfl) (by kernel_rfl) (fun _ _ _ h => h) (Or.inl ⟨by kernel_rfl, ?_⟩) (by assumption) ?_
          case refine_2 => (intro w9 hSw; have l0 := (hSw.at (wr.heap.size) [.int .i64 b, .string ⟨#[109, 111, 110]⟩] (by simp)).c 0 rfl; have l1 := (hSw.at (wr.heap.size) [.int .i64 b, .string ⟨#[109, 111, 110]⟩] (by simp)).c 1 rfl; clear hSw; go_simp; try with_reducible rfl)
          simp only [Act.put, List.setIfInBounds_toArray, List.set_cons_zero, List.set_cons_succ]
          refine wpAnyH_ready (rs := [4]) (by kernel_rfl) (by simp) (AllReadyH.cons (o := { dst := some 29, op := _, type := _, pos := _, after := _, guard := none }) rfl (fun K hK => ?_) AllReadyH.nil)
          go_simp
          refine (turn_any _ _ _).mono ?_
          rintro e v1 ⟨rfl, hw1⟩
          rw [hw1]
          clear hw1 v1
          refine hK.out _ _ hHeld (fun hHeld => ?_)
          clear hK K
          refine wpAnyH_ready (rs := [7]) (by kernel_rfl) (by simp) (AllReadyH.cons (o := { dst := some 32, op := _, type := _, pos := _, after := _, guard := none }) rfl (fun K hK => ?_) AllReadyH.nil)
          go_simp
          refine (digits_any b (by omega) (by omega) _ (hL.out _ hHeld.1)).mono ?_
          rintro e v2 ⟨rfl, hb2⟩
          refine hK.out _ _ (hHeld.below hb2) (fun hHeld => ?_)
          have HO2 := own_keep HO.out hb2
          clear HO
          have HO : Hid (World.ownsRow _ _ _ _ _ _ _) := HO2
          clear HO2
          clear hK K hb2
          refine wpAnyH_ready (rs := [12]) (by kernel_rfl) (by simp) (AllReadyH.cons (o := { dst := some 37, op := _, type := _, pos := _, after := _, guard := none }) rfl (fun K hK => ?_) AllReadyH.nil)
          go_simp
          refine (many_any _ _).mono ?_
          rintro e v3 ⟨rfl, hw3⟩
          rw [hw3]
          clear hw3 v3
          refine hK.out _ _ hHeld (fun hHeld => ?_)
          clear hK K
          refine wpAnyH_ready (rs := [13]) (by kernel_rfl) (by simp) (AllReadyH.cons (o := { dst := some 38, op := _, type := _, pos := _, after := _, guard := none }) rfl (fun K hK => ?_) AllReadyH.nil)
          go_simp
          refine hK.out _ _ (hHeld.alloc _) (fun hHeld => ?_)
          have HX := bx_held _ hHeld
          have HO2 := own_held hHeld HO
          clear HO
          have HO : Hid (World.ownsRow _ _ _ _ _ _ _) := HO2.out
          clear HO2
          clear hK K
          refine wpAnyH_ready (rs := [14]) (by kernel_rfl) (by simp) (AllReadyH.cons (o := { dst := some 39, op := _, type := _, pos := _, after := _, guard := none }) rfl (fun K hK => ?_) AllReadyH.nil)
          go_simp
          refine (je5 (trn l b) (dg b) ⟨#[32]⟩ ⟨#[109, 111, 110]⟩ (mny b) (Nat.le_trans (trn_size _ _) (by decide)) (Nat.le_trans (dg_size _ (by omega) (by omega)) (by decide)) (by decide) (by decide) (Nat.le_trans (mny_size _) (by decide)) _ _ HX.out).mono ?_
          rintro e v5 ⟨rfl, hb5⟩
          rw [show trn l b ++ dg b ++ ⟨#[32]⟩ ++ ⟨#[109, 111, 110]⟩ ++ mny b = unB b ⟨#[109, 111, 110]⟩ l from rfl]
          refine hK.out _ _ (hHeld.below hb5) (fun hHeld => ?_)
          have HO2 := own_keep HO.out hb5
          clear HO
          have HO : Hid (World.ownsRow _ _ _ _ _ _ _) := HO2
          clear HO2
          clear hK K hb5 HX
          refine wpAnyH_ready (rs := [15]) (by kernel_rfl) (by simp) (AllReadyH.cons (o := { dst := some 40, op := _, type := _, pos := _, after := _, guard := none }) rfl (fun K hK => ?_) AllReadyH.nil)
          go_simp
          refine hK.out _ _ (hHeld.alloc _) (fun hHeld => ?_)
          have HX := bx_held _ hHeld
          have HO2 := own_held hHeld HO
          clear HO
          have HO : Hid (World.ownsRow _ _ _ _ _ _ _) := HO2.out
          clear HO2
          clear hK K
          refine wpAnyH_ready (rs := [16]) (by kernel_rfl) (by simp) (AllReadyH.cons (o := { dst := some 41, op := _, type := _, pos := _, after := _, guard := none }) rfl (fun K hK => ?_) AllReadyH.nil)
          refine (if_pos (by kernel_rfl)).mpr (wp_append_own _ _ _ 57 rfl (w.heap.size + 1) 9 i1 (.string ByteArray.empty) 1 16 Tryz.underlying57 hi1 hy0 hy1 hy2 rfl (by decide) (.slice ao n c) n _ rfl HO.out _ 1 1 [.string (unB b ⟨#[109, 111, 110]⟩ l)] rfl rfl (bx_cells HX.out) (by intro u hu; simp at hu; subst hu; rfl) (by unfold maxLen; omega) (by omega) (by have := (hHeld.at (w.heap.size) [.int .i64 0, .int .i64 M, .int .i64 D, .int .i64 U] (by simp)).1; omega) ?_)
          intro v' w' hown hgr _
          obtain ⟨ao', c', hv'⟩ : ∃ ao' c', v' = .slice ao' (n + 1) c' := by (rcases hown.2 with ⟨e, z⟩ | ⟨g, cap, cur, e, _⟩; (exact absurd z (by omega)); exact ⟨_, _, e⟩)
          subst hv'
          have HB2 : BS w ((wr.heap.size, [.int .i64 b, .string ⟨#[109, 111, 110]⟩]) :: [(w.heap.size, [.int .i64 0, .int .i64 M, .int .i64 D, .int .i64 U])]) w' := bs_grown hHeld (by intro x hx e; have hk := HE.out x.1 e.symm; simp only [List.mem_cons, List.not_mem_nil, or_false] at hx; rcases hx with rfl | rfl; (simp only [] at hk; omega); (simp only [] at hk; omega)) (fun k hk => by have := HE.out k hk; omega) hgr
          refine hK.out _ _ HB2 (fun hHeld => ?_)
          have HN2 : Hid (World.ownsRow w' (w.heap.size + 1) 9 1 (.slice ao' (n + 1) c') (n + 1) (cS ((stN a b D 1).1 ++ [unB b ⟨#[109, 111, 110]⟩ l]))) := by (rw [cS_app]; exact hown)
          clear hK K HO HX hgr hown HB2 HE
          refine wpAnyH_take (i := 17) (v := ?_) (oi := { dst := some 3, op := _, type := _, pos := _, after := _, guard := none }) rfl (by kernel_rfl) (by kernel_rfl) (by kernel_rfl) (fun _ _ _ h => h) (Or.inl ⟨by kernel_rfl, ?_⟩) (by assumption) ?_
          case refine_2 => (intro w9 hSw; clear hSw; go_simp; try with_reducible rfl)
          simp only [Act.put, List.setIfInBounds_toArray, List.set_cons_zero, List.set_cons_succ]
          refine wpAnyH_done (by kernel_rfl) ?_ _
          have HB9 : Hid (BS w ((wr.heap.size, [.int .i64 b, .string ⟨#[109, 111, 110]⟩]) :: [(w.heap.size, [.int .i64 0, .int .i64 M, .int .i64 D, .int .i64 U])]) _) := hHeld
          clear hHeld
          obtain ⟨e0, e1⟩ := (bo1 HB9).c2
          go_wp2_with fail
          go_roundw
          case rel => exact ⟨1 + 1, n + 1, c', ao', by go_num, by omega, by omega, rfl, by rw [est2.out], by (show _ = _; rw [est2.out, List.length_append, HN.out]; rfl), HB9.out.tail, by (rw [est2.out]; exact HN2)⟩
          case measure => simp [intOf]
      · have est : stN a b D (2 + 1) = stW D ⟨#[100, 97, 121]⟩ (stN a b D 2) := rfl
        obtain ⟨l, hl⟩ : ∃ l, (stN a b D 2).2 = l := ⟨_, rfl⟩
        rw [hl]
        have Mz := bsn HB [.int .i64 D, .string ⟨#[100, 97, 121]⟩] 100
        have HO1 : Hid ((wr.alloc (.cells #[.int .i64 D, .string ⟨#[100, 97, 121]⟩] 100)).ownsRow (w.heap.size + 1) 9 1 (.slice ao n c) n (cS (stN a b D 2).1)) := HO.out.alloc _
        have hix : ∀ w : World, (Instr.index 101 (.agg #[.int .i64 a, .string ⟨#[121, 101, 97, 114]⟩, .int .i64 b, .string ⟨#[109, 111, 110]⟩, .int .i64 D, .string ⟨#[100, 97, 121]⟩]) (.int .i64 ((2 : Nat) : Int))).run Tryz.prog w = .ok (.agg #[.int .i64 D, .string ⟨#[100, 97, 121]⟩]) w := fun w => by kernel_rfl
        have hix2 : ∀ w : World, (Instr.index 101 (.agg #[.int .i64 a, .string ⟨#[121, 101, 97, 114]⟩, .int .i64 b, .string ⟨#[109, 111, 110]⟩, .int .i64 D, .string ⟨#[100, 97, 121]⟩]) (.int .i64 2)).run Tryz.prog w = .ok (.agg #[.int .i64 D, .string ⟨#[100, 97, 121]⟩]) w := fun w => by kernel_rfl
        by_cases hz : D = 0
        · have est2 : Hid (stN a b D (2 + 1) = stN a b D 2) := by show _ = _; rw [est]; unfold stW; rw [if_pos hz]
          have z1 : (D == 0) = true := by simpa using hz
          clear hz est
          go_upto_region 6 with fail
          refine gen_to (fun V => Hid (BS w ((wr.heap.size, [.int .i64 D, .string ⟨#[100, 97, 121]⟩]) :: [(w.heap.size, [.int .i64 0, .int .i64 M, .int .i64 D, .int .i64 U])]) V) ∧ Hid (V.ownsRow (w.heap.size + 1) 9 1 (.slice ao n c) n (cS (stN a b D 2).1))) ⟨Mz, HO1⟩ ?_
          clear Mz HO1 HB HO
          rintro V ⟨HB, HO⟩
          obtain ⟨d0, d1⟩ := (bo1 HB).c2
          go_wp2_with fail
          go_roundw
          case rel => exact ⟨2 + 1, n, c, ao, by go_num, by omega, hn3, rfl, by rw [est2.out, hl], by rw [est2.out]; exact HN, HB.out.tail, by rw [est2.out]; exact HO⟩
          case measure => simp [intOf]
        · have est2 : Hid (stN a b D (2 + 1) = ((stN a b D 2).1 ++ [unB D ⟨#[100, 97, 121]⟩ l], D)) := by show _ = _; rw [est]; unfold stW; rw [if_neg hz, hl]
          have z1 : (D == 0) = false := by simpa using hz
          have HE : Hid (∀ k, (Value.slice ao n c).ownBlock = some k → w.heap.size + 1 ≤ k ∧ k < wr.heap.size) := fun k hk => HO.out.lt k hk
          clear hz est
          go_upto_region 6 with fail
          refine gen_to (fun V => Hid (BS w ((wr.heap.size, [.int .i64 D, .string ⟨#[100, 97, 121]⟩]) :: [(w.heap.size, [.int .i64 0, .int .i64 M, .int .i64 D, .int .i64 U])]) V) ∧ Hid (V.ownsRow (w.heap.size + 1) 9 1 (.slice ao n c) n (cS (stN a b D 2).1))) ⟨Mz, HO1⟩ ?_
          clear Mz HO1 HB HO
          rintro V ⟨HB, HO⟩
          obtain ⟨d0, d1⟩ := (bo1 HB).c2
          go_upto_region 7 with fail
          have HO2 := HO.out.drew
          clear HO
          have HO : Hid (V.drew.ownsRow (w.heap.size + 1) 9 1 (.slice ao n c) n (cS (stN a b D 2).1)) := HO2
          clear HO2
          refine wp_region_held_drew (S := BS w ((wr.heap.size, [.int .i64 D, .string ⟨#[100, 97, 121]⟩]) :: [(w.heap.size, [.int .i64 0, .int .i64 M, .int .i64 D, .int .i64 U])])) (by kernel_rfl) HB.out.drew (fun hHeld => ?_)
          refine wpAnyH_take (i := 0) (v := ?_) (oi := { dst := some 25, op := _, type := _, pos := _, after := _, guard := none }) rfl (by kernel_rfl) (by kernel_rfl) (by kernel_rfl) (fun _ _ _ h => h) (Or.inl ⟨by kernel_rfl, ?_⟩) (by assumption) ?_
          case refine_2 => (intro w9 hSw; clear hSw; go_simp; try with_reducible rfl)
          simp only [Act.put, List.setIfInBounds_toArray, List.set_cons_zero, List.set_cons_succ]
          refine wpAnyH_take (i := 1) (v := ?_) (oi := { dst := some 26, op := _, type := _, pos := _, after := _, guard := none }) rfl (by kernel_rfl) (by kernel_rfl) (by kernel_rfl) (fun _ _ _ h => h) (Or.inl ⟨by kernel_rfl, ?_⟩) (by assumption) ?_
          case refine_2 => (intro w9 hSw; clear hSw; go_simp; try with_reducible rfl)
          simp only [Act.put, List.setIfInBounds_toArray, List.set_cons_zero, List.set_cons_succ]
          refine wpAnyH_take (i := 2) (v := ?_) (oi := { dst := some 27, op := _, type := _, pos := _, after := _, guard := none }) rfl (by kernel_rfl) (by kernel_rfl) (by kernel_rfl) (fun _ _ _ h => h) (Or.inl ⟨by kernel_rfl, ?_⟩) (by assumption) ?_
          case refine_2 => (intro w9 hSw; clear hSw; go_simp; try with_reducible rfl)
          simp only [Act.put, List.setIfInBounds_toArray, List.set_cons_zero, List.set_cons_succ]
          refine wpAnyH_take (i := 3) (v := ?_) (oi := { dst := some 28, op := _, type := _, pos := _, after := _, guard := none }) rfl (by kernel_rfl) (by kernel_rfl) (by kernel_rfl) (fun _ _ _ h => h) (Or.inl ⟨by kernel_rfl, ?_⟩) (by assumption) ?_
          case refine_2 => (intro w9 hSw; have l0 := (hSw.at (wr.heap.size) [.int .i64 D, .string ⟨#[100, 97, 121]⟩] (by simp)).c 0 rfl; have l1 := (hSw.at (wr.heap.size) [.int .i64 D, .string ⟨#[100, 97, 121]⟩] (by simp)).c 1 rfl; clear hSw; go_simp; try with_reducible rfl)
          simp only [Act.put, List.setIfInBounds_toArray, List.set_cons_zero, List.set_cons_succ]
          refine wpAnyH_take (i := 5) (v := ?_) (oi := { dst := some 30, op := _, type := _, pos := _, after := _, guard := none }) rfl (by kernel_rfl) (by kernel_rfl) (by kernel_rfl) (fun _ _ _ h => h) (Or.inl ⟨by kernel_rfl, ?_⟩) (by assumption) ?_
          case refine_2 => (intro w9 hSw; clear hSw; go_simp; try with_reducible rfl)
          simp only [Act.put, List.setIfInBounds_toArray, List.set_cons_zero, List.set_cons_succ]
          refine wpAnyH_take (i := 6) (v := ?_) (oi := { dst := some 31, op := _, type := _, pos := _, after := _, guard := none }) rfl (by kernel_rfl) (by kernel_rfl) (by kernel_rfl) (fun _ _ _ h => h) (Or.inl ⟨by kernel_rfl, ?_⟩) (by assumption) ?_
          case refine_2 => (intro w9 hSw; have l0 := (hSw.at (wr.heap.size) [.int .i64 D, .string ⟨#[100, 97, 121]⟩] (by simp)).c 0 rfl; have l1 := (hSw.at (wr.heap.size) [.int .i64 D, .string ⟨#[100, 97, 121]⟩] (by simp)).c 1 rfl; clear hSw; go_simp; try with_reducible rfl)
          simp only [Act.put, List.setIfInBounds_toArray, List.set_cons_zero, List.set_cons_succ]
          refine wpAnyH_take (i := 8) (v := ?_) (oi := { dst := some 33, op := _, type := _, pos := _, after := _, guard := none }) rfl (by kernel_rfl) (by kernel_rfl) (by kernel_rfl) (fun _ _ _ h => h) (Or.inl ⟨by kernel_rfl, ?_⟩) (by assumption) ?_
          case refine_2 => (intro w9 hSw; clear hSw; go_simp; try with_reducible rfl)
          simp only [Act.put, List.setIfInBounds_toArray, List.set_cons_zero, List.set_cons_succ]
          refine wpAnyH_take (i := 9) (v := ?_) (oi := { dst := some 34, op := _, type := _, pos := _, after := _, guard := none }) rfl (by kernel_rfl) (by kernel_rfl) (by kernel_rfl) (fun _ _ _ h => h) (Or.inl ⟨by kernel_rfl, ?_⟩) (by assumption) ?_
          case refine_2 => (intro w9 hSw; have l0 := (hSw.at (wr.heap.size) [.int .i64 D, .string ⟨#[100, 97, 121]⟩] (by simp)).c 0 rfl; have l1 := (hSw.at (wr.heap.size) [.int .i64 D, .string ⟨#[100, 97, 121]⟩] (by simp)).c 1 rfl; clear hSw; go_simp; try with_reducible rfl)
          simp only [Act.put, List.setIfInBounds_toArray, List.set_cons_zero, List.set_cons_succ]
          refine wpAnyH_take (i := 10) (v := ?_) (oi := { dst := some 35, op := _, type := _, pos := _, after := _, guard := none }) rfl (by kernel_rfl) (by kernel_rfl) (by kernel_rfl) (fun _ _ _ h => h) (Or.inl ⟨by kernel_rfl, ?_⟩) (by assumption) ?_
          case refine_2 => (intro w9 hSw; clear hSw; go_simp; try with_reducible rfl)
          simp only [Act.put, List.setIfInBounds_toArray, List.set_cons_zero, List.set_cons_succ]
          refine wpAnyH_take (i := 11) (v := ?_) (oi := { dst := some 36, op := _, type := _, pos := _, after := _, guard := none }) rfl (by kernel_rfl) (by kernel_rfl) (by kernel_rfl) (fun _ _ _ h => h) (Or.inl ⟨by kernel_rfl, ?_⟩) (by assumption) ?_
          case refine_2 => (intro w9 hSw; have l0 := (hSw.at (wr.heap.size) [.int .i64 D, .string ⟨#[100, 97, 121]⟩] (by simp)).c 0 rfl; have l1 := (hSw.at (wr.heap.size) [.int .i64 D, .string ⟨#[100, 97, 121]⟩] (by simp)).c 1 rfl; clear hSw; go_simp; try with_reducible rfl)
          simp only [Act.put, List.setIfInBounds_toArray, List.set_cons_zero, List.set_cons_succ]
          refine wpAnyH_ready (rs := [4]) (by kernel_rfl) (by simp) (AllReadyH.cons (o := { dst := some 29, op := _, type := _, pos := _, after := _, guard := none }) rfl (fun K hK => ?_) AllReadyH.nil)
          go_simp
          refine (turn_any _ _ _).mono ?_
          rintro e v1 ⟨rfl, hw1⟩
          rw [hw1]
          clear hw1 v1
          refine hK.out _ _ hHeld (fun hHeld => ?_)
          clear hK K
          refine wpAnyH_ready (rs := [7]) (by kernel_rfl) (by simp) (AllReadyH.cons (o := { dst := some 32, op := _, type := _, pos := _, after := _, guard := none }) rfl (fun K hK => ?_) AllReadyH.nil)
          go_simp
          refine (digits_any D (by omega) (by omega) _ (hL.out _ hHeld.1)).mono ?_
          rintro e v2 ⟨rfl, hb2⟩
          refine hK.out _ _ (hHeld.below hb2) (fun hHeld => ?_)
          have HO2 := own_keep HO.out hb2
          clear HO
          have HO : Hid (World.ownsRow _ _ _ _ _ _ _) := HO2
          clear HO2
          clear hK K hb2
          refine wpAnyH_ready (rs := [12]) (by kernel_rfl) (by simp) (AllReadyH.cons (o := { dst := some 37, op := _, type := _, pos := _, after := _, guard := none }) rfl (fun K hK => ?_) AllReadyH.nil)
          go_simp
          refine (many_any _ _).mono ?_
          rintro e v3 ⟨rfl, hw3⟩
          rw [hw3]
          clear hw3 v3
          refine hK.out _ _ hHeld (fun hHeld => ?_)
          clear hK K
          refine wpAnyH_ready (rs := [13]) (by kernel_rfl) (by simp) (AllReadyH.cons (o := { dst := some 38, op := _, type := _, pos := _, after := _, guard := none }) rfl (fun K hK => ?_) AllReadyH.nil)
          go_simp
          refine hK.out _ _ (hHeld.alloc _) (fun hHeld => ?_)
          have HX := bx_held _ hHeld
          have HO2 := own_held hHeld HO
          clear HO
          have HO : Hid (World.ownsRow _ _ _ _ _ _ _) := HO2.out
          clear HO2
          clear hK K
          refine wpAnyH_ready (rs := [14]) (by kernel_rfl) (by simp) (AllReadyH.cons (o := { dst := some 39, op := _, type := _, pos := _, after := _, guard := none }) rfl (fun K hK => ?_) AllReadyH.nil)
          go_simp
          refine (je5 (trn l D) (dg D) ⟨#[32]⟩ ⟨#[100, 97, 121]⟩ (mny D) (Nat.le_trans (trn_size _ _) (by decide)) (Nat.le_trans (dg_size _ (by omega) (by omega)) (by decide)) (by decide) (by decide) (Nat.le_trans (mny_size _) (by decide)) _ _ HX.out).mono ?_
          rintro e v5 ⟨rfl, hb5⟩
          rw [show trn l D ++ dg D ++ ⟨#[32]⟩ ++ ⟨#[100, 97, 121]⟩ ++ mny D = unB D ⟨#[100, 97, 121]⟩ l from rfl]
          refine hK.out _ _ (hHeld.below hb5) (fun hHeld => ?_)
          have HO2 := own_keep HO.out hb5
          clear HO
          have HO : Hid (World.ownsRow _ _ _ _ _ _ _) := HO2
          clear HO2
          clear hK K hb5 HX
          refine wpAnyH_ready (rs := [15]) (by kernel_rfl) (by simp) (AllReadyH.cons (o := { dst := some 40, op := _, type := _, pos := _, after := _, guard := none }) rfl (fun K hK => ?_) AllReadyH.nil)
          go_simp
          refine hK.out _ _ (hHeld.alloc _) (fun hHeld => ?_)
          have HX := bx_held _ hHeld
          have HO2 := own_held hHeld HO
          clear HO
          have HO : Hid (World.ownsRow _ _ _ _ _ _ _) := HO2.out
          clear HO2
          clear hK K
          refine wpAnyH_ready (rs := [16]) (by kernel_rfl) (by simp) (AllReadyH.cons (o := { dst := some 41, op := _, type := _, pos := _, after := _, guard := none }) rfl (fun K hK => ?_) AllReadyH.nil)
          refine (if_pos (by kernel_rfl)).mpr (wp_append_own _ _ _ 57 rfl (w.heap.size + 1) 9 i1 (.string ByteArray.empty) 1 16 Tryz.underlying57 hi1 hy0 hy1 hy2 rfl (by decide) (.slice ao n c) n _ rfl HO.out _ 1 1 [.string (unB D ⟨#[100, 97, 121]⟩ l)] rfl rfl (bx_cells HX.out) (by intro u hu; simp at hu; subst hu; rfl) (by unfold maxLen; omega) (by omega) (by have := (hHeld.at (w.heap.size) [.int .i64 0, .int .i64 M, .int .i64 D, .int .i64 U] (by simp)).1; omega) ?_)
          intro v' w' hown hgr _
          obtain ⟨ao', c', hv'⟩ : ∃ ao' c', v' = .slice ao' (n + 1) c' := by (rcases hown.2 with ⟨e, z⟩ | ⟨g, cap, cur, e, _⟩; (exact absurd z (by omega)); exact ⟨_, _, e⟩)
          subst hv'
          have HB2 : BS w ((wr.heap.size, [.int .i64 D, .string ⟨#[100, 97, 121]⟩]) :: [(w.heap.size, [.int .i64 0, .int .i64 M, .int .i64 D, .int .i64 U])]) w' := bs_grown hHeld (by intro x hx e; have hk := HE.out x.1 e.symm; simp only [List.mem_cons, List.not_mem_nil, or_false] at hx; rcases hx with rfl | rfl; (simp only [] at hk; omega); (simp only [] at hk; omega)) (fun k hk => by have := HE.out k hk; omega) hgr
          refine hK.out _ _ HB2 (fun hHeld => ?_)
          have HN2 : Hid (World.ownsRow w' (w.heap.size + 1) 9 1 (.slice ao' (n + 1) c') (n + 1) (cS ((stN a b D 2).1 ++ [unB D ⟨#[100, 97, 121]⟩ l]))) := by (rw [cS_app]; exact hown)
          clear hK K HO HX hgr hown HB2 HE
          refine wpAnyH_take (i := 17) (v := ?_) (oi := { dst := some 3, op := _, type := _, pos := _, after := _, guard := none }) rfl (by kernel_rfl) (by kernel_rfl) (by kernel_rfl) (fun _ _ _ h => h) (Or.inl ⟨by kernel_rfl, ?_⟩) (by assumption) ?_
          case refine_2 => (intro w9 hSw; clear hSw; go_simp; try with_reducible rfl)
          simp only [Act.put, List.setIfInBounds_toArray, List.set_cons_zero, List.set_cons_succ]
          refine wpAnyH_done (by kernel_rfl) ?_ _
          have HB9 : Hid (BS w ((wr.heap.size, [.int .i64 D, .string ⟨#[100, 97, 121]⟩]) :: [(w.heap.size, [.int .i64 0, .int .i64 M, .int .i64 D, .int .i64 U])]) _) := hHeld
          clear hHeld
          obtain ⟨e0, e1⟩ := (bo1 HB9).c2
          go_wp2_with fail
          go_roundw
          case rel => exact ⟨2 + 1, n + 1, c', ao', by go_num, by omega, by omega, rfl, by rw [est2.out], by (show _ = _; rw [est2.out, List.length_append, HN.out]; rfl), HB9.out.tail, by (rw [est2.out]; exact HN2)⟩
          case measure => simp [intOf]
    · have hlt' : ¬ (i : Int) < 3 := by omega
      obtain rfl : i = 3 := by omega
      have hszL := stN_sz a b D a1 a9 b1 b9 D1 D9
      obtain ⟨c0, c1, c2, c3⟩ := (bo1 HB).c4
      obtain ⟨lq, hlq⟩ : ∃ lq, (stN a b D 3).2 = lq := ⟨_, rfl⟩
      rw [hlq]
      have HE : Hid (∀ k, (Value.slice ao n c).ownBlock = some k → w.heap.size + 1 ≤ k ∧ k < wr.heap.size) := fun k hk => HO.out.lt k hk
      go_upto_region 11 with fail
      clear c0 c1 c2 c3
      have HO2 := HO.out.drew
      clear HO
      have HO : Hid (wr.drew.ownsRow (w.heap.size + 1) 9 1 (.slice ao n c) n (cS (stN a b D 3).1)) := HO2
      clear HO2
      refine wp_region_held_drew (S := BS w [(w.heap.size, [.int .i64 0, .int .i64 M, .int .i64 D, .int .i64 U])]) (by kernel_rfl) HB.out.drew (fun hHeld => ?_)
      refine wpAnyH_take (i := 0) (v := ?_) (oi := { dst := some 53, op := _, type := _, pos := _, after := _, guard := none }) rfl (by kernel_rfl) (by kernel_rfl) (by kernel_rfl) (fun _ _ _ h => h) (Or.inl ⟨by kernel_rfl, ?_⟩) (by assumption) ?_
      case refine_2 => (intro w9 hSw; clear hSw; go_simp; try with_reducible rfl)
      simp only [Act.put, List.setIfInBounds_toArray, List.set_cons_zero, List.set_cons_succ]
      refine wpAnyH_take (i := 1) (v := ?_) (oi := { dst := some 54, op := _, type := _, pos := _, after := _, guard := none }) rfl (by kernel_rfl) (by kernel_rfl) (by kernel_rfl) (fun _ _ _ h => h) (Or.inl ⟨by kernel_rfl, ?_⟩) (by assumption) ?_
      case refine_2 => (intro w9 hSw; clear hSw; go_simp; try with_reducible rfl)
      simp only [Act.put, List.setIfInBounds_toArray, List.set_cons_zero, List.set_cons_succ]
      refine wpAnyH_take (i := 2) (v := ?_) (oi := { dst := some 55, op := _, type := _, pos := _, after := _, guard := none }) rfl (by kernel_rfl) (by kernel_rfl) (by kernel_rfl) (fun _ _ _ h => h) (Or.inl ⟨by kernel_rfl, ?_⟩) (by assumption) ?_
      case refine_2 => (intro w9 hSw; clear hSw; go_simp; try with_reducible rfl)
      simp only [Act.put, List.setIfInBounds_toArray, List.set_cons_zero, List.set_cons_succ]
      refine wpAnyH_take (i := 3) (v := ?_) (oi := { dst := some 56, op := _, type := _, pos := _, after := _, guard := none }) rfl (by kernel_rfl) (by kernel_rfl) (by kernel_rfl) (fun _ _ _ h => h) (Or.inl ⟨by kernel_rfl, ?_⟩) (by assumption) ?_
      case refine_2 => (intro w9 hSw; have l0 := (hSw.at (w.heap.size) [.int .i64 0, .int .i64 M, .int .i64 D, .int .i64 U] (by simp)).c 3 rfl; clear hSw; go_simp; try with_reducible rfl)
      simp only [Act.put, List.setIfInBounds_toArray, List.set_cons_zero, List.set_cons_succ]
      refine wpAnyH_take (i := 5) (v := ?_) (oi := { dst := some 58, op := _, type := _, pos := _, after := _, guard := none }) rfl (by kernel_rfl) (by kernel_rfl) (by kernel_rfl) (fun _ _ _ h => h) (Or.inl ⟨by kernel_rfl, ?_⟩) (by assumption) ?_
      case refine_2 => (intro w9 hSw; clear hSw; go_simp; try with_reducible rfl)
      simp only [Act.put, List.setIfInBounds_toArray, List.set_cons_zero, List.set_cons_succ]
      refine wpAnyH_take (i := 6) (v := ?_) (oi := { dst := some 59, op := _, type := _, pos := _, after := _, guard := none }) rfl (by kernel_rfl) (by kernel_rfl) (by kernel_rfl) (fun _ _ _ h => h) (Or.inl ⟨by kernel_rfl, ?_⟩) (by assumption) ?_
      case refine_2 => (intro w9 hSw; have l0 := (hSw.at (w.heap.size) [.int .i64 0, .int .i64 M, .int .i64 D, .int .i64 U] (by simp)).c 3 rfl; clear hSw; go_simp; try with_reducible rfl)
      simp only [Act.put, List.setIfInBounds_toArray, List.set_cons_zero, List.set_cons_succ]
      refine wpAnyH_ready (rs := [4]) (by kernel_rfl) (by simp) (AllReadyH.cons (o := { dst := some 57, op := _, type := _, pos := _, after := _, guard := none }) rfl (fun K hK => ?_) AllReadyH.nil)
      go_simp
      refine (turn_any _ _ _).mono ?_
      rintro e v1 ⟨rfl, hw1⟩
      rw [hw1]
      clear hw1 v1
      refine hK.out _ _ hHeld (fun hHeld => ?_)
      clear hK K
      refine wpAnyH_ready (rs := [7]) (by kernel_rfl) (by simp) (AllReadyH.cons (o := { dst := some 60, op := _, type := _, pos := _, after := _, guard := none }) rfl (fun K hK => ?_) AllReadyH.nil)
      go_simp
      refine (Clk.long_any U U1 U9 _ (hL.out _ hHeld.1)).mono ?_
      rintro e v2 ⟨rfl, hb2⟩
      refine hK.out _ _ (hHeld.below hb2) (fun hHeld => ?_)
      have HO2 := own_keep HO.out hb2
      clear HO
      have HO : Hid (World.ownsRow _ _ _ _ _ _ _) := HO2
      clear HO2
      clear hK K hb2
      refine wpAnyH_ready (rs := [8]) (by kernel_rfl) (by simp) (AllReadyH.cons (o := { dst := some 61, op := _, type := _, pos := _, after := _, guard := none }) rfl (fun K hK => ?_) AllReadyH.nil)
      go_simp
      refine hK.out _ _ (hHeld.alloc _) (fun hHeld => ?_)
      have HX := bx_held _ hHeld
      have HO2 := own_held hHeld HO
      clear HO
      have HO : Hid (World.ownsRow _ _ _ _ _ _ _) := HO2.out
      clear HO2
      clear hK K
      refine wpAnyH_ready (rs := [9]) (by kernel_rfl) (by simp) (AllReadyH.cons (o := { dst := some 62, op := _, type := _, pos := _, after := _, guard := none }) rfl (fun K hK => ?_) AllReadyH.nil)
      go_simp
      refine (je2 (trn lq U) (Clk.longB U) (Nat.le_trans (trn_size _ _) (by decide)) (Nat.le_trans (long_size _ U1 U9) (by decide)) _ _ HX.out).mono ?_
      rintro e v4 ⟨rfl, hb4⟩
      rw [show trn lq U ++ Clk.longB U = tmB lq U from rfl]
      refine hK.out _ _ (hHeld.below hb4) (fun hHeld => ?_)
      have HO2 := own_keep HO.out hb4
      clear HO
      have HO : Hid (World.ownsRow _ _ _ _ _ _ _) := HO2
      clear HO2
      clear hK K hb4 HX
      refine wpAnyH_ready (rs := [10]) (by kernel_rfl) (by simp) (AllReadyH.cons (o := { dst := some 63, op := _, type := _, pos := _, after := _, guard := none }) rfl (fun K hK => ?_) AllReadyH.nil)
      go_simp
      refine hK.out _ _ (hHeld.alloc _) (fun hHeld => ?_)
      have HX := bx_held _ hHeld
      have HO2 := own_held hHeld HO
      clear HO
      have HO : Hid (World.ownsRow _ _ _ _ _ _ _) := HO2.out
      clear HO2
      clear hK K
      refine wpAnyH_ready (rs := [11]) (by kernel_rfl) (by simp) (AllReadyH.cons (o := { dst := some 64, op := _, type := _, pos := _, after := _, guard := none }) rfl (fun K hK => ?_) AllReadyH.nil)
      refine (if_pos (by kernel_rfl)).mpr (wp_append_own _ _ _ 57 rfl (w.heap.size + 1) 9 i1 (.string ByteArray.empty) 1 16 Tryz.underlying57 hi1 hy0 hy1 hy2 rfl (by decide) (.slice ao n c) n _ rfl HO.out _ 1 1 [.string (tmB lq U)] rfl rfl (bx_cells HX.out) (by intro u hu; simp at hu; subst hu; rfl) (by unfold maxLen; omega) (by omega) (by have := (hHeld.at (w.heap.size) [.int .i64 0, .int .i64 M, .int .i64 D, .int .i64 U] (by simp)).1; omega) ?_)
      intro v' w' hown hgr _
      obtain ⟨ao', c', hv'⟩ : ∃ ao' c', v' = .slice ao' (n + 1) c' := by (rcases hown.2 with ⟨e, z⟩ | ⟨g, cap, cur, e, _⟩; (exact absurd z (by omega)); exact ⟨_, _, e⟩)
      subst hv'
      have HB2 : BS w [(w.heap.size, [.int .i64 0, .int .i64 M, .int .i64 D, .int .i64 U])] w' := bs_grown hHeld (by intro x hx e; have hk := HE.out x.1 e.symm; simp only [List.mem_cons, List.not_mem_nil, or_false] at hx; subst hx; (simp only [] at hk; omega)) (fun k hk => by have := HE.out k hk; omega) hgr
      refine hK.out _ _ HB2 (fun hHeld => ?_)
      have hown2 : World.ownsRow w' (w.heap.size + 1) 9 1 (.slice ao' (n + 1) c') (n + 1) (cS ((stN a b D 3).1 ++ [tmB lq U])) := by (rw [cS_app]; exact hown)
      obtain ⟨a0, rfl, hcc, htx⟩ := own_txt hown2 (by (rw [List.length_append, HN.out]; rfl)) (by omega)
      have HTX : Hid (∀ j t, ((stN a b D 3).1 ++ [tmB lq U])[j]? = some t → w'.cell? (a0.add j) = some (.string t)) := htx
      clear hK K HO HX hgr hown HB2 HE hown2 htx
      refine wpAnyH_take (i := 12) (v := ?_) (oi := { dst := some 3, op := _, type := _, pos := _, after := _, guard := none }) rfl (by kernel_rfl) (by kernel_rfl) (by kernel_rfl) (fun _ _ _ h => h) (Or.inl ⟨by kernel_rfl, ?_⟩) (by assumption) ?_
      case refine_2 => (intro w9 hSw; clear hSw; go_simp; try with_reducible rfl)
      simp only [Act.put, List.setIfInBounds_toArray, List.set_cons_zero, List.set_cons_succ]
      refine wpAnyH_done (by kernel_rfl) ?_ _
      have HBF : Hid (BS w [(w.heap.size, [.int .i64 0, .int .i64 M, .int .i64 D, .int .i64 U])] _) := hHeld
      clear hHeld
      obtain ⟨LL, hLq⟩ : ∃ LL, (stN a b D 3).1 ++ [tmB lq U] = LL := ⟨_, rfl⟩
      have hLL : LL.length = n + 1 := by (rw [← hLq, List.length_append, HN.out]; rfl)
      have hzz : szL LL ≤ 5000 := by (rw [← hLq, szL_snoc]; have := long_size U U1 U9; have := trn_size lq U; have e9 : (tmB lq U).size = (trn lq U).size + (Clk.longB U).size := ba_size _ _; omega)
      rw [hLq] at HTX
      have HLQ : Hid ((stN a b D 3).1 ++ [tmB lq U] = LL) := hLq
      clear hLq
      go_wp2_with fail
      refine (joined_any ⟨#[32]⟩ LL a0 (n + 1) c' hLL (by omega) (by omega) hcc (by decide) hzz _ HTX).mono ?_
      rintro e wf ⟨rfl, hbf⟩
      have HF : Hid (Below w.heap.size w wf) := HBF.out.1.trans (hbf.mono HBF.out.1.size)
      clear hbf HBF
      go_wp2
      go_ret
      exact ⟨by rw [hlq, HLQ.out]; rfl, HF.out⟩

end Go.Proofs.YtmohhbgmbicklaaGreatDoor
