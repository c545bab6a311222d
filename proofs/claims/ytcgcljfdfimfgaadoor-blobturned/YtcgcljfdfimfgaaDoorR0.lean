import Derived.Test.YtcgcljfdfimfgaaDoorRows
import Derived.WalkKit
import Derived.WalkSpells
import Derived.WalkLawsBesides
import Derived.Laws.IdiomStrings
import Derived.Lib.ItoaNum
import Derived.Lib.ItoaLen
import Derived.Lib.OthersKept
import Derived.Deep.LoopGhost
import Derived.Deep.RegionWith
import Derived.Below
import Derived.ChangeSlices
import Derived.Carry
import Derived.Deep.RegionHeld3
import Derived.Deep.MidRow
import Derived.Laws.BytesArg
import Derived.Laws.MakeOwn
import Derived.RangeFuncBox
import Derived.Laws.AppendOwn
import Derived.ArgAppend
/- Contract of the reference's Digits: a number's digits, below nought with a sign. -/
namespace Go.Proofs.YtcgcljfdfimfgaaDoor
open Go.RowKit
set_option linter.unusedVariables false

theorem infoU8 : (Tryd.prog.info? 5).map (fun i => (i.zero, i.size, i.bytes)) = some (some (.int .u8 0), 1, 1) := by kernel_rfl
def cellsB (l : List UInt8) : List Value := l.map fun b => .int .u8 (b.toNat : Int)
theorem cellsB_get {l : List UInt8} {j : Nat} {c : UInt8} (h : l[j]? = some c) : (cellsB l)[j]? = some (.int .u8 (c.toNat : Int)) := by simp [cellsB, h]
end Go.Proofs.YtcgcljfdfimfgaaDoor
/- Blocks of cells, read and written whole. -/
namespace Go.Proofs.YtcgcljfdfimfgaaDoor
open Go.RowKit
set_option linter.unusedVariables false
namespace Sr

def Bx (W : World) (b : Nat) (l : List Value) : Prop := b < W.heap.size ∧ ∀ i v, l[i]? = some v → W.cell? ⟨b, i, none⟩ = some v ∧ W.frozen? ⟨b, i, none⟩ = false
theorem Bx.below {W W' : World} {b : Nat} {l : List Value} (h : Bx W b l) (hb : Below W.heap.size W W') : Bx W' b l :=
  ⟨Nat.lt_of_lt_of_le h.1 hb.size, fun i v e => ⟨(hb.cell (p := ⟨b, i, none⟩) h.1).trans (h.2 i v e).1, (hb.frozen (p := ⟨b, i, none⟩) h.1).trans (h.2 i v e).2⟩⟩
theorem Bx.alloc {W : World} {b : Nat} {l : List Value} (h : Bx W b l) (o : Obj) : Bx (W.alloc o) b l := h.below ((Below.refl _ W).alloc (Nat.le_refl _) o)
theorem Bx.new (w : World) (l : List Value) (t : TypeId) : Bx (w.alloc (.cells l.toArray t)) w.heap.size l :=
  ⟨by simp, fun i v e => ⟨by rw [World.cell?_alloc_at _ _ _ _ rfl]; simpa using e, by rw [World.frozen?_alloc_at _ _ _ _ rfl]⟩⟩
theorem Bx.newAt (w : World) (l : List Value) (t : TypeId) (b : Nat) (hb : w.heap.size = b) : Bx (w.alloc (.cells l.toArray t)) b l := hb ▸ Bx.new w l t
theorem Bx.c {W : World} {b : Nat} {l : List Value} (h : Bx W b l) (i : Nat) {v : Value} (e : l[i]? = some v) : W.cell? ⟨b, i, none⟩ = some v := (h.2 i v e).1
theorem Bx.f {W : World} {b : Nat} {l : List Value} (h : Bx W b l) (i : Nat) {v : Value} (e : l[i]? = some v) : W.frozen? ⟨b, i, none⟩ = false := (h.2 i v e).2
theorem below_setCells {w : World} {b : Nat} (hb : w.heap.size ≤ b) : ∀ (vs : List Value) (W : World) (i : Nat), Below w.heap.size w W → Below w.heap.size w (W.setCells b i vs)
  | [], _, _, h => h
  | v :: vs, W, i, h => below_setCells hb vs _ _ (h.setCell (p := ⟨b, i, none⟩) hb v)
theorem setCells_size (b : Nat) : ∀ (vs : List Value) (W : World) (i : Nat), (W.setCells b i vs).heap.size = W.heap.size
  | [], _, _ => rfl
  | v :: vs, W, i => by rw [World.setCells, setCells_size b vs]; simp
theorem setCells_off (b : Nat) (vs : List Value) (W : World) (i : Nat) (p : Addr) (h : p.block ≠ b) : (W.setCells b i vs).cell? p = W.cell? p :=
  World.cell?_setCells_out b vs i W p (fun e _ => absurd e h)
theorem Bx.there {W : World} {b : Nat} {l : List Value} (h : Bx W b l) : W.there b 0 l.length := fun j hj => by
  have := h.2 j l[j] (List.getElem?_eq_getElem hj)
  rw [Nat.zero_add]
  exact ⟨by rw [this.1]; rfl, this.2⟩
theorem Bx.rng {W : World} {b : Nat} {l : List Value} (h : Bx W b l) (p cs q : List Value) (e : l = p ++ (cs ++ q)) : W.rangeAt b p.length cs := fun j v hv => by
  refine (h.2 (p.length + j) v ?_).1
  have hj : j < cs.length := (List.getElem?_eq_some_iff.1 hv).1
  rw [e, List.getElem?_append_right (by omega), show p.length + j - p.length = j by omega, List.getElem?_append_left hj]
  exact hv
theorem Bx.all {W : World} {b : Nat} {l : List Value} (h : Bx W b l) : W.rangeAt b 0 l := fun j v hv => by rw [Nat.zero_add]; exact (h.2 j v hv).1
theorem Bx.setAll {W : World} {b : Nat} {l : List Value} (h : Bx W b l) (vs : List Value) (hl : l.length = vs.length) : Bx (W.setCells b 0 vs) b vs :=
  ⟨by rw [setCells_size]; exact h.1, fun i v e => by
    have hi := (List.getElem?_eq_some_iff.1 e).1
    refine ⟨?_, ?_⟩
    · have := World.rangeAt_setCells_same W b 0 vs (hl ▸ h.there) i v e
      rwa [Nat.zero_add] at this
    · rw [World.frozen?_setCells]; exact (h.2 i l[i] (List.getElem?_eq_getElem (by omega))).2⟩
theorem Bx.setOther {W : World} {b' b : Nat} {l : List Value} (h : Bx W b' l) (hb : b' ≠ b) (vs : List Value) (j : Nat := 0) : Bx (W.setCells b j vs) b' l :=
  ⟨by rw [setCells_size]; exact h.1, fun i v e => ⟨by rw [setCells_off b vs _ _ _ hb]; exact (h.2 i v e).1, by rw [World.frozen?_setCells]; exact (h.2 i v e).2⟩⟩
theorem gen_any {P : Program} {md : Region.Mode} {ops : Array Oper} {Q : Exit → Act → World → Prop} {S : World → Prop} {fuel : Nat} {listed : Array Bool} {a : Act} {w1 : World} (T : World → Prop) (h : T w1)
    (k : ∀ w2, T w2 → wpAnyH P md ops Q S fuel listed a w2) : wpAnyH P md ops Q S fuel listed a w1 := k _ h

theorem gen_list {P : Program} {ops : Array Oper} {Q : Exit → Act → World → Prop} {rest : List Oper} {a : Act} {w1 : World} (T : World → Prop) (h : T w1) (k : ∀ w2, T w2 → wpList P ops Q rest a w2) : wpList P ops Q rest a w1 := k _ h
theorem gen_code {P : Program} {c : Code} {Q : Exit → Act → World → Prop} {a : Act} {w1 : World} (T : World → Prop) (h : T w1) (k : ∀ w2, T w2 → Code.wp P c Q a w2) : Code.wp P c Q a w1 := k _ h
end Sr
end Go.Proofs.YtcgcljfdfimfgaaDoor
/- Mathematics of package blob: two sums of bytes, a number's bytes, one byte that is another one. -/
namespace Go.Proofs.YtcgcljfdfimfgaaDoor
set_option linter.unusedVariables false

/-- both sums, from a and c on. -/
def adS : List UInt8 → Nat → Nat → Nat × Nat
  | [], a, c => (a, c)
  | x :: l, a, c => adS l ((a + x.toNat) % 65521) ((c + (a + x.toNat) % 65521) % 65521)
def sumN (l : List UInt8) : Nat := (l.map (·.toNat)).sum
theorem adS_lt (l : List UInt8) : ∀ a c, a < 65521 → c < 65521 → (adS l a c).1 < 65521 ∧ (adS l a c).2 < 65521 := by
  induction l with
  | nil => intro a c ha hc; exact ⟨ha, hc⟩
  | cons x l ih => intro a c ha hc; exact ih _ _ (Nat.mod_lt _ (by decide)) (Nat.mod_lt _ (by decide))
theorem adS_fst (l : List UInt8) : ∀ a c, a < 65521 → (adS l a c).1 = (a + sumN l) % 65521 := by
  induction l with
  | nil => intro a c ha; simp [adS, sumN]; omega
  | cons x l ih =>
    intro a c ha
    rw [adS, ih _ _ (Nat.mod_lt _ (by decide))]
    simp only [sumN, List.map_cons, List.sum_cons]
    omega
/-- the sum of bytes. -/
def smB (l : List UInt8) : Nat := (adS l 1 0).2 * 65536 + (adS l 1 0).1
theorem smB_lt (l : List UInt8) : smB l < 4294967296 := by
  have := adS_lt l 1 0 (by decide) (by decide); unfold smB; omega
theorem smB_mod (l : List UInt8) : smB l % 65536 = (1 + sumN l) % 65521 := by
  have := adS_lt l 1 0 (by decide) (by decide); have h2 := adS_fst l 1 0 (by decide); unfold smB; omega

/-- the last k bytes of n, the highest first. -/
def beB : Nat → Nat → List UInt8
  | 0, _ => []
  | k + 1, n => UInt8.ofNat (n / 256 ^ k) :: beB k n
theorem beB_len (k n : Nat) : (beB k n).length = k := by
  induction k with
  | zero => rfl
  | succ k ih => simp [beB, ih]
theorem beB4 (n : Nat) : beB 4 n = [UInt8.ofNat (n / 16777216), UInt8.ofNat (n / 65536), UInt8.ofNat (n / 256), UInt8.ofNat n] := by simp [beB]
theorem u8_of (n : Nat) : (UInt8.ofNat n).toNat = n % 256 := by simp
theorem beB4_inj {n m : Nat} (hn : n < 4294967296) (hm : m < 4294967296) (h : beB 4 n = beB 4 m) : n = m := by
  rw [beB4, beB4] at h
  simp only [List.cons.injEq, and_true] at h
  obtain ⟨h1, h2, h3, h4⟩ := h
  have h1 := congrArg UInt8.toNat h1
  have h2 := congrArg UInt8.toNat h2
  have h3 := congrArg UInt8.toNat h3
  have h4 := congrArg UInt8.toNat h4
  rw [u8_of, u8_of] at h1 h2 h3 h4
  omega

theorem sumN_append (a b : List UInt8) : sumN (a ++ b) = sumN a + sumN b := by simp [sumN]
theorem sumN_cons (x : UInt8) (b : List UInt8) : sumN (x :: b) = x.toNat + sumN b := by simp [sumN]
/-- one byte is another one: another sum. -/
theorem smB_ne (a b : List UInt8) (x y : UInt8) (h : x ≠ y) : smB (a ++ x :: b) ≠ smB (a ++ y :: b) := by
  intro e
  have e := congrArg (· % 65536) e
  simp only [smB_mod, sumN_append, sumN_cons] at e
  have hx : x.toNat < 256 := x.toNat_lt
  have hy : y.toNat < 256 := y.toNat_lt
  have hn : x.toNat ≠ y.toNat := fun k => h (UInt8.toNat_inj.1 k)
  omega

end Go.Proofs.YtcgcljfdfimfgaaDoor
/- Contracts: blob.Sum, the reference's Sum, blob.highest, blob.sumOf. -/
namespace Go.Proofs.YtcgcljfdfimfgaaDoor
open Go.RowKit
set_option linter.unusedVariables false

/-- the bytes L lie where the slice (a, n) says. -/
def RdB (W : World) (a : Option Addr) (L : List UInt8) : Prop := ∀ j x, L[j]? = some x → ∃ ad, a = some ad ∧ W.cell? (ad.add j) = some (.int .u8 (x.toNat : Int))
theorem adS_drop {L : List UInt8} {j : Nat} {x : UInt8} (h : L[j]? = some x) (a c : Nat) : adS (L.drop j) a c = adS (L.drop (j + 1)) ((a + x.toNat) % 65521) ((c + (a + x.toNat) % 65521) % 65521) := by
  obtain ⟨hl, he⟩ := List.getElem?_eq_some_iff.1 h
  rw [List.drop_eq_getElem_cons hl, he, adS]

set_option maxRecDepth 100000 in
set_option maxHeartbeats 4000000 in
theorem sum_any (a : Option Addr) (L : List UInt8) (n c : Nat) (hn : L.length = n) (hc : n ≤ maxLen) (w : World) (HR : Hid (RdB w a L)) :
    Calls Tryd.prog 18 #[.slice a n c] w fun e w' => e = .returned (.int .u32 (smB L : Int)) ∧ w' = w := by
  have hm : n ≤ 9223372036854775807 := hc
  go_enter Tryd.func18, Tryd.ntmps18
  go_wp2_with fail
  go_loopw [3, 4, 9] (fun u v i W => ∃ (A C j : Nat), A < 65521 ∧ C < 65521 ∧ j ≤ n ∧ u = .int .u32 (A : Int) ∧ v = .int .u32 (C : Int) ∧ i = .int .i64 (j : Int) ∧ Hid (adS (L.drop j) A C = adS L 1 0) ∧ W = w) (fun _ _ i _ => n - (intOf i).toNat)
  case atStart => exact ⟨1, 0, 0, by decide, by decide, Nat.zero_le _, rfl, rfl, rfl, by show _ = _; simp, rfl⟩
  case round =>
    obtain ⟨A, C, j, hA, hC, hj, rfl, rfl, rfl, HS, hw⟩ := hrel
    obtain rfl := hw.symm
    clear hw
    by_cases hjn : j < n
    · obtain ⟨x, hx⟩ : ∃ x, L[j]? = some x := ⟨_, List.getElem?_eq_getElem (by omega)⟩
      obtain ⟨ad, rfl, hcell⟩ := HR.out j x hx
      have HS' : Hid (adS (L.drop (j + 1)) ((A + x.toNat) % 65521) ((C + (A + x.toNat) % 65521) % 65521) = adS L 1 0) := by have := HS.out; rw [adS_drop hx] at this; exact this
      have hx8 : x.toNat < 256 := x.toNat_lt
      obtain ⟨X, hX⟩ : ∃ X, x.toNat = X := ⟨_, rfl⟩
      rw [hX] at hcell HS' hx8
      clear hX hx HS
      have e1 : IntKind.u32.wrap ((A : Int) + (X : Int)) = ((A + X : Nat) : Int) := by rw [IntKind.wrap_u32]; omega
      go_wp2_with fail
      exact ⟨⟨(A + X) % 65521, (C + (A + X) % 65521) % 65521, j + 1, Nat.mod_lt _ (by decide), Nat.mod_lt _ (by decide), by omega, by congr 1, by congr 1, by congr 1, HS', trivial⟩, by simp [intOf]; omega⟩
    · have HF : Hid (smB L = C * 65536 + A) := by
        have h := HS.out
        rw [List.drop_eq_nil_of_le (by omega)] at h
        show _ = _
        unfold smB; rw [← h]; rfl
      have e1 : (C : Int) * 65536 < 4294967296 := by omega
      go_wp2_with fail
      exact bodyPost_ret (v := .int .u32 ((C : Int) * 65536 + A)) (by simp [results, Tryd.results18, go_sem]) rfl ⟨by rw [HF.out]; simp, rfl⟩

end Go.Proofs.YtcgcljfdfimfgaaDoor
/- Contracts: blob.highest, blob.sumOf. -/
namespace Go.Proofs.YtcgcljfdfimfgaaDoor
open Go.RowKit Sr
set_option linter.unusedVariables false

theorem Sr.Bx.set1 {W : World} {b : Nat} {l : List Value} (h : Bx W b l) (i : Nat) (v : Value) (hi : i < l.length) : Bx (W.setCell ⟨b, i, none⟩ v) b (l.set i v) :=
  ⟨by simpa using h.1, fun j x e => by
    by_cases hj : i = j
    · subst hj
      rw [List.getElem?_set_self hi] at e
      cases e
      exact ⟨World.cell?_setCell_same _ _ _ (h.2 i l[i] (List.getElem?_eq_getElem hi)).1, by rw [World.frozen?_setCell]; exact (h.2 i l[i] (List.getElem?_eq_getElem hi)).2⟩
    · rw [List.getElem?_set_ne hj] at e
      exact ⟨(World.cell?_setCell_other _ _ _ _ (fun q => hj (by cases q; rfl))).trans (h.2 j x e).1, by rw [World.frozen?_setCell]; exact (h.2 j x e).2⟩⟩
/-- bytes that are written from behind: i of k. -/
def hiL (k i N : Nat) : List UInt8 := List.replicate (k - i) 0 ++ beB i N
theorem hiL_len {k i N : Nat} (h : i ≤ k) : (hiL k i N).length = k := by simp [hiL, beB_len]; omega
theorem hiL_set {k i N : Nat} (h : i < k) : (hiL k i N).set (k - 1 - i) (UInt8.ofNat (N / 256 ^ i)) = hiL k (i + 1) N := by
  unfold hiL
  rw [show k - i = (k - 1 - i) + 1 by omega, List.replicate_succ', List.append_assoc, List.set_append_right _ _ (by simp)]
  simp [beB, show k - (i + 1) = k - 1 - i by omega]
theorem cellsB_set (l : List UInt8) (i : Nat) (x : UInt8) : cellsB (l.set i x) = (cellsB l).set i (.int .u8 (x.toNat : Int)) := by simp [cellsB, List.map_set]
theorem cellsB_len (l : List UInt8) : (cellsB l).length = l.length := by simp [cellsB]
theorem cellsB_app (l m : List UInt8) : cellsB (l ++ m) = cellsB l ++ cellsB m := by simp [cellsB]
theorem hi_mod (M : Nat) : ((UInt8.ofNat M).toNat : Int) = (M : Int) % 256 := by rw [u8_of]; omega

set_option maxRecDepth 100000 in
set_option maxHeartbeats 4000000 in
theorem highest_any (k N : Nat) (hk : k ≤ 8) (hN : N < 18446744073709551616) (HM : Hid (∀ w : World, (Instr.makeSlice 35 (.int .i64 (k : Int)) (.int .i64 (k : Int))).run Tryd.prog w = .ok (.slice (some ⟨w.heap.size, 0, none⟩) k k) (w.alloc (.cells (cellsB (List.replicate k 0)).toArray 5)))) (w : World) :
    Calls Tryd.prog 31 #[.int .u64 (N : Int), .int .i64 (k : Int)] w fun e w' => e = .returned (.slice (some ⟨w.heap.size, 0, none⟩) k k) ∧ Below w.heap.size w w' ∧ Bx w' w.heap.size (cellsB (beB k N)) := by
  have hmk := HM.out w
  go_enter Tryd.func31, Tryd.ntmps31
  go_wp2_with fail
  go_loopw [0, 10] (fun u i W => ∃ (j : Nat), j ≤ k ∧ u = .int .u64 ((N / 256 ^ j : Nat) : Int) ∧ i = .int .i64 (j : Int) ∧ Hid (Bx W w.heap.size (cellsB (hiL k j N))) ∧ Hid (Below w.heap.size w W)) (fun _ i _ => k - (intOf i).toNat)
  case atStart => exact ⟨0, Nat.zero_le _, by simp, rfl, by have := Bx.new w (cellsB (List.replicate k 0)) 5; simpa [hiL, beB, Hid] using this, (Below.refl _ _).alloc (Nat.le_refl _) _⟩
  case round =>
    obtain ⟨j, hj, rfl, rfl, HX, HB⟩ := hrel
    by_cases hjk : j < k
    · have hlen : (cellsB (hiL k j N)).length = k := by rw [cellsB_len, hiL_len hj]
      obtain ⟨q, hq⟩ : ∃ q, (cellsB (hiL k j N))[k - 1 - j]? = some q := ⟨_, List.getElem?_eq_getElem (by omega)⟩
      have hcell := HX.out.c _ hq
      have hfz := HX.out.f _ hq
      have HX' : Hid (Bx (wr.setCell ⟨w.heap.size, k - 1 - j, none⟩ (.int .u8 (((N / 256 ^ j : Nat) : Int) % 256))) w.heap.size (cellsB (hiL k (j + 1) N))) := by
        have := HX.out.set1 (k - 1 - j) (.int .u8 (((N / 256 ^ j : Nat) : Int) % 256)) (by omega)
        rw [← hi_mod, ← cellsB_set, hiL_set hjk] at this; rw [← hi_mod]; exact this
      have HB' : Hid (Below w.heap.size w (wr.setCell ⟨w.heap.size, k - 1 - j, none⟩ (.int .u8 (((N / 256 ^ j : Nat) : Int) % 256)))) := HB.out.setCell (p := ⟨w.heap.size, k - 1 - j, none⟩) (Nat.le_refl _) _
      have hNj : N / 256 ^ j < 18446744073709551616 := Nat.lt_of_le_of_lt (Nat.div_le_self _ _) hN
      have HD : Hid (N / 256 ^ j / 256 = N / 256 ^ (j + 1)) := by show _ = _; rw [Nat.div_div_eq_div_mul, Nat.pow_succ]
      generalize N / 256 ^ j = M at *
      go_wp2_with fail
      exact ⟨⟨j + 1, by omega, by rw [← HD.out]; simp, by simp, HX', HB'⟩, by simp [intOf]; omega⟩
    · have e : j = k := by omega
      have HX2 : Hid (Bx wr w.heap.size (cellsB (beB k N))) := by have := HX.out; rw [e] at this; simpa [hiL, Hid] using this
      clear HX e hmk HM
      go_wp2_with fail
      exact bodyPost_ret (v := .slice (some ⟨w.heap.size, 0, none⟩) k k) (by simp [results, Tryd.results31, go_sem]) rfl ⟨rfl, HB.out, HX2.out⟩

theorem highest_8 (N : Nat) (hN : N < 18446744073709551616) (w : World) :
    Calls Tryd.prog 31 #[.int .u64 (N : Int), .int .i64 8] w fun e w' => e = .returned (.slice (some ⟨w.heap.size, 0, none⟩) 8 8) ∧ Below w.heap.size w w' ∧ Bx w' w.heap.size (cellsB (beB 8 N)) :=
  highest_any 8 N (by decide) hN (fun w => by kernel_rfl) w
theorem highest_4 (N : Nat) (hN : N < 18446744073709551616) (w : World) :
    Calls Tryd.prog 31 #[.int .u64 (N : Int), .int .i64 4] w fun e w' => e = .returned (.slice (some ⟨w.heap.size, 0, none⟩) 4 4) ∧ Below w.heap.size w w' ∧ Bx w' w.heap.size (cellsB (beB 4 N)) :=
  highest_any 4 N (by decide) hN (fun w => by kernel_rfl) w

set_option maxRecDepth 100000 in
set_option maxHeartbeats 4000000 in
theorem sumOf_any (a : Option Addr) (L : List UInt8) (n c : Nat) (hn : L.length = n) (hc : n ≤ maxLen) (w : World) (HR : Hid (RdB w a L)) :
    Calls Tryd.prog 15 #[.slice a n c] w fun e w' => e = .returned (.slice (some ⟨w.heap.size, 0, none⟩) 4 4) ∧ Below w.heap.size w w' ∧ Bx w' w.heap.size (cellsB (beB 4 (smB L))) := by
  have hS := sum_any a L n c hn hc w HR
  have hm := smB_lt L
  have hH := highest_4 (smB L) (by omega) w
  generalize smB L = M at *
  go_enter Tryd.func15, Tryd.ntmps15
  go_wp2_with fail
  refine hS.mono ?_
  rintro e w' ⟨rfl, hw⟩
  obtain rfl := hw.symm
  clear hw hS
  go_wp2_with fail
  refine hH.mono ?_
  rintro e w2 ⟨rfl, hb, hx⟩
  go_wp2_with fail
  exact bodyPost_ret (v := .slice (some ⟨w.heap.size, 0, none⟩) 4 4) (by simp [results, Tryd.results15, go_sem]) rfl ⟨rfl, hb, hx⟩

end Go.Proofs.YtcgcljfdfimfgaaDoor
/- Contracts: what Put's closure does: bytes more behind the bytes. -/
namespace Go.Proofs.YtcgcljfdfimfgaaDoor
open Go.RowKit Sr
set_option linter.unusedVariables false

/-- all blocks but bb and rows of bytes lie as they lay. -/
def KT (bb : Nat) (W W' : World) : Prop := W.heap.size ≤ W'.heap.size ∧ ∀ k o, W.heap[k]? = some o → k ≠ bb → (∀ cs fz, o ≠ .cells cs 5 fz) → W'.heap[k]? = some o
theorem KT.refl (bb : Nat) (W : World) : KT bb W W := ⟨Nat.le_refl _, fun _ _ h _ _ => h⟩
theorem KT.trans {bb : Nat} {A B C : World} (h : KT bb A B) (k : KT bb B C) : KT bb A C := ⟨Nat.le_trans h.1 k.1, fun i o hi hb hn => k.2 i o (h.2 i o hi hb hn) hb hn⟩
theorem KT.of_below {bb : Nat} {A B : World} (h : Below A.heap.size A B) : KT bb A B := ⟨h.size, fun i o hi _ _ => (h.block i (Array.getElem?_eq_some_iff.1 hi).1).trans hi⟩
theorem KT.boxed {bb : Nat} {A B : World} (h : KT bb A B) {b : Nat} {t : TypeId} {v : Value} (hb : Boxed A b t v) (hn : b ≠ bb) (ht : t ≠ 5) : Boxed B b t v := h.2 _ _ hb hn (fun cs fz e => ht (by cases e; rfl))
/-- a row of bytes that is the call's own, or a full one. -/
def RowQ (W : World) (base : Nat) (v : Value) (L : List UInt8) : Prop := W.ownsRow base 5 1 v L.length (cellsB L) ∨ ∃ g cur fz, v = .slice (some ⟨g, 0, none⟩) L.length L.length ∧ base ≤ g ∧ W.heap[g]? = some (.cells cur 5 fz) ∧ cur.toList = cellsB L
theorem RowQ.lt {W : World} {base : Nat} {v : Value} {L : List UInt8} (h : RowQ W base v L) : ∀ k, v.ownBlock = some k → base ≤ k := by
  rcases h with h | ⟨g, cur, fz, rfl, hb, _⟩
  · exact fun k hk => (h.lt k hk).1
  · intro k hk; simp [Value.ownBlock] at hk; omega
theorem RowQ.blk5 {W : World} {base : Nat} {v : Value} {L : List UInt8} (h : RowQ W base v L) : ∀ k, v.ownBlock = some k → ∃ cs fz, W.heap[k]? = some (.cells cs 5 fz) := by
  intro k hk
  rcases h with h | ⟨g, cur, fz, rfl, hb, hg, _⟩
  · rcases h.2 with ⟨rfl, _⟩ | ⟨g, cap, cur, rfl, _, hg, _⟩
    · simp [Value.ownBlock] at hk
    · simp [Value.ownBlock] at hk; subst hk; exact ⟨_, _, hg⟩
  · simp [Value.ownBlock] at hk; subst hk; exact ⟨_, _, hg⟩
theorem RowQ.mv {W W' : World} {base : Nat} {v : Value} {L : List UInt8} (h : RowQ W base v L) (hk : ∀ g o, v.ownBlock = some g → W.heap[g]? = some o → W'.heap[g]? = some o) : RowQ W' base v L := by
  rcases h with ⟨h1, h2⟩ | ⟨g, cur, fz, rfl, hb, hg, hc⟩
  · refine .inl ⟨h1, ?_⟩
    rcases h2 with h2 | ⟨g, cap, cur, a, b, c, d⟩
    · exact .inl h2
    · exact .inr ⟨g, cap, cur, a, b, hk g _ (by rw [a]; rfl) c, d⟩
  · exact .inr ⟨g, cur, fz, rfl, hb, hk g _ rfl hg, hc⟩
theorem RowQ.rd {W : World} {base : Nat} {v : Value} {L : List UInt8} (h : RowQ W base v L) (h0 : 0 < L.length) : ∃ g c, v = .slice (some ⟨g, 0, none⟩) L.length c ∧ ∀ j u, (cellsB L)[j]? = some u → W.cell? ((⟨g, 0, none⟩ : Addr).add j) = some u := by
  rcases h with h | ⟨g, cur, fz, rfl, hb, hg, hc⟩
  · rcases h.2 with ⟨_, z⟩ | ⟨g, cap, cur, rfl, _⟩
    · omega
    · exact ⟨g, cap, rfl, fun j u hu => h.cells rfl j u hu⟩
  · refine ⟨g, _, rfl, fun j u hu => ?_⟩
    have ha : ((⟨g, 0, none⟩ : Addr).add j) = ⟨g, j, none⟩ := by cases j <;> simp [Addr.add]
    rw [ha]
    simp only [World.cell?, hg]
    rw [← hc] at hu
    simpa using hu
theorem run_append_Q {W : World} {base : Nat} {v : Value} {L M : List UInt8} (h : RowQ W base v L) (hL : 0 < L.length) (hbase : base ≤ W.heap.size) (ty : TypeId) (ad : Addr) (m c : Nat) (hM : M.length = m) (hm : 0 < m ∨ W.ownsRow base 5 1 v L.length (cellsB L)) (hlen : L.length + m ≤ 1000000)
    (HR : ∀ j u, (cellsB M)[j]? = some u → W.cell? (ad.add j) = some u) :
    ∃ v' w', (Builtin.append_ #[35, 35] ty #[v, .slice (some ad) m c]).run Tryd.prog W = .ok v' w' ∧ w'.ownsRow base 5 1 v' (L.length + m) (cellsB L ++ cellsB M) ∧ W.grownBy w' v.ownBlock := by
  obtain ⟨i0, hi, hz0, hz1, hz2⟩ := info_parts infoU8
  have one : ∀ u ∈ cellsB M, u.oneCell' = true := by
    intro u hu
    simp only [cellsB, List.mem_map] at hu
    obtain ⟨x, _, rfl⟩ := hu
    rfl
  have strong : W.ownsRow base 5 1 v L.length (cellsB L) → ∃ v' w', (Builtin.append_ #[35, 35] ty #[v, .slice (some ad) m c]).run Tryd.prog W = .ok v' w' ∧ w'.ownsRow base 5 1 v' (L.length + m) (cellsB L ++ cellsB M) ∧ W.grownBy w' v.ownBlock := fun ho => by
    obtain ⟨v', w', a, b, c', _⟩ := run_append_own (P := Tryd.prog) W base 35 ty 5 i0 (.int .u8 0) 1 1 Tryd.underlying35 hi hz0 hz1 hz2 rfl (by decide) v L.length (cellsB L) ho ad m c (cellsB M) (by rw [cellsB_len, hM, Nat.mul_one]) HR one (by unfold maxLen; omega) (by omega) hbase
    exact ⟨v', w', a, b, c'⟩
  rcases hm with hm | hs
  · rcases h with h | h
    · exact strong h
    · obtain ⟨g, c9, e, hrd⟩ := RowQ.rd (.inr h) hL
      obtain ⟨g', cur, fz, e', hb', hg', hc'⟩ := h
      rw [e'] at e
      simp at e
      obtain ⟨rfl, rfl⟩ := e
      subst e'
      obtain ⟨v', w', a, b, c'⟩ := run_append_arg_grows (P := Tryd.prog) W 35 ty 5 i0 (.int .u8 0) 1 1 Tryd.underlying35 hi hz0 hz1 hz2 rfl (by decide) ⟨g', 0, none⟩ L.length L.length (cellsB L) (by rw [cellsB_len, Nat.mul_one]) hrd ad m c (cellsB M) (by rw [cellsB_len, hM, Nat.mul_one]) HR (by omega) (by unfold maxLen; omega) (by omega)
      refine ⟨v', w', a, ⟨b.1, ?_⟩, ⟨c'.os, c'.tape, c'.output, c'.size, fun k hk _ => c'.block k hk (by simp)⟩⟩
      rcases b.2 with b2 | ⟨g2, cap, cur2, a2, b2, c2⟩
      · exact .inl b2
      · exact .inr ⟨g2, cap, cur2, a2, by omega, c2⟩
  · exact strong hs
theorem wp_append_Q {o : Oper} {a : Act} {K : Act → World → Prop} {Q : Exit → Act → World → Prop} (s x : Operand) (ho : o.op = .call { callee := .builtin .append, args := #[s, x], argTypes := #[35, 35] })
    {W : World} {base : Nat} {v : Value} {L M : List UInt8} (h : RowQ W base v L) (hL : 0 < L.length) (hbase : base ≤ W.heap.size) (hs : a.eval s = v) (ad : Addr) (m c : Nat) (hx : a.eval x = .slice (some ad) m c) (hM : M.length = m) (hm : 0 < m ∨ W.ownsRow base 5 1 v L.length (cellsB L)) (hlen : L.length + m ≤ 1000000)
    (HR : ∀ j u, (cellsB M)[j]? = some u → W.cell? (ad.add j) = some u) (hK : ∀ v' w', w'.ownsRow base 5 1 v' (L.length + m) (cellsB L ++ cellsB M) → W.grownBy w' v.ownBlock → K (a.put o.dst v') w') : o.wp Tryd.prog a W K Q := by
  obtain ⟨v', w', hr, h2, h3⟩ := run_append_Q h hL hbase o.type ad m c hM hm hlen HR
  unfold Oper.wp execOp
  simp only [ho, resolve, invoke, builtin, Sem.run_bind, Sem.run_pure, Result.andThen_ok, List.map_toArray, List.map_cons, List.map_nil, hs, hx, hr]
  exact hK v' w' h2 h3
theorem wpList_append_Q {ops : Array Oper} {rest : List Oper} {o : Oper} {a : Act} {Q : Exit → Act → World → Prop} (hgd : o.guard = none) (s x : Operand) (ho : o.op = .call { callee := .builtin .append, args := #[s, x], argTypes := #[35, 35] })
    {W : World} {base : Nat} {v : Value} {L M : List UInt8} (h : RowQ W base v L) (hL : 0 < L.length) (hbase : base ≤ W.heap.size) (hs : a.eval s = v) (ad : Addr) (m c : Nat) (hx : a.eval x = .slice (some ad) m c) (hM : M.length = m) (hm : 0 < m ∨ W.ownsRow base 5 1 v L.length (cellsB L)) (hlen : L.length + m ≤ 1000000)
    (HR : ∀ j u, (cellsB M)[j]? = some u → W.cell? (ad.add j) = some u) (hK : ∀ v' w', w'.ownsRow base 5 1 v' (L.length + m) (cellsB L ++ cellsB M) → W.grownBy w' v.ownBlock → wpList Tryd.prog ops Q rest (a.put o.dst v') w') : wpList Tryd.prog ops Q (o :: rest) a W :=
  wpList_plain hgd fun _ hK' => wp_append_Q s x ho h hL hbase hs ad m c hx hM hm hlen HR fun v' w' h2 h3 => hK' _ _ (hK v' w' h2 h3)
/-- what Put holds: its bytes, behind a box. -/
structure WS (w0 : World) (bb base : Nat) (W : World) (L : List UInt8) : Prop where
  below : Below w0.heap.size w0 W
  hb : w0.heap.size ≤ bb
  hbase : w0.heap.size ≤ base
  hsz : base ≤ W.heap.size
  le : base ≤ bb
  own : ∃ v, Boxed W bb 35 v ∧ RowQ W base v L
theorem WS.mv {w0 : World} {bb base : Nat} {W W' : World} {L : List UInt8} (h : WS w0 bb base W L) (hb : Below W.heap.size W W') : WS w0 bb base W' L := by
  obtain ⟨v, hv, ho⟩ := h.own
  refine ⟨h.below.trans (hb.mono h.below.size), h.hb, h.hbase, Nat.le_trans h.hsz hb.size, h.le, v, (hb.block _ hv.lt).trans hv, ?_⟩
  exact ho.mv (fun g o _ hg => (hb.block g (Array.getElem?_eq_some_iff.1 hg).1).trans hg)
/-- .. and it is the call's own. -/
def Own1 (bb base : Nat) (W : World) (L : List UInt8) : Prop := ∃ v, Boxed W bb 35 v ∧ W.ownsRow base 5 1 v L.length (cellsB L)
theorem Own1.mv {bb base : Nat} {W W' : World} {L : List UInt8} (h : Own1 bb base W L) (hb : Below W.heap.size W W') : Own1 bb base W' L := by
  obtain ⟨v, hv, h1, h2⟩ := h
  refine ⟨v, (hb.block _ hv.lt).trans hv, h1, ?_⟩
  rcases h2 with h2 | ⟨g, cap, cur, a, b, c, d⟩
  · exact .inl h2
  · exact .inr ⟨g, cap, cur, a, b, (hb.block g (Array.getElem?_eq_some_iff.1 c).1).trans c, d⟩

/-- a cell that lies neither in bb nor in a row of bytes. -/
def CT (W : World) (bb : Nat) (p : Addr) (v : Value) : Prop := W.cell? p = some v ∧ p.block ≠ bb ∧ ∃ o, W.heap[p.block]? = some o ∧ ∀ cs fz, o ≠ .cells cs 5 fz
theorem CT.kt {W W' : World} {bb : Nat} {p : Addr} {v : Value} (h : CT W bb p v) (k : KT bb W W') : CT W' bb p v := by
  obtain ⟨h1, h2, o, h3, h4⟩ := h
  have := k.2 _ _ h3 h2 h4
  exact ⟨(World.cell?_of_block (this.trans h3.symm)).trans h1, h2, o, this, h4⟩
theorem CT.mv {W W' : World} {bb : Nat} {p : Addr} {v : Value} (h : CT W bb p v) (k : Below W.heap.size W W') : CT W' bb p v := h.kt (KT.of_below k)
/-- the closure that Put hands to writer. -/
abbrev putF (bb : Nat) : Value := .func (.func 14) #[] #[.pointer (some ⟨bb, 0, none⟩)]
/-- what a closure of writer's finds: the bytes, its own cell, the box of put. -/
def WC (w0 : World) (bb base pb : Nat) (p : Addr) (x : Value) (W : World) : Prop := ∃ L, WS w0 bb base W L ∧ CT W bb p x ∧ CT W bb ⟨pb, 0, none⟩ (putF bb)
theorem WC.below {w0 : World} {bb base pb : Nat} {p : Addr} {x : Value} {W W' : World} (h : WC w0 bb base pb p x W) (k : Below W.heap.size W W') : WC w0 bb base pb p x W' := by
  obtain ⟨L, h1, h2, h3⟩ := h
  exact ⟨L, h1.mv k, h2.mv k, h3.mv k⟩
theorem below_drew1 (W : World) : Below W.heap.size W W.drew := ⟨rfl, rfl, rfl, Nat.le_refl _, fun _ _ => rfl⟩

set_option maxRecDepth 100000 in
set_option maxHeartbeats 4000000 in
theorem put1_any (w0 : World) (bb base : Nat) (W : World) (L M : List UInt8) (HS : Hid (WS w0 bb base W L)) (ad : Addr) (m c : Nat) (hM : M.length = m) (hm : 0 < m ∨ Own1 bb base W L) (hlen : L.length + m ≤ 1000000) (hL : 0 < L.length)
    (HR : Hid (∀ j x, M[j]? = some x → W.cell? (ad.add j) = some (.int .u8 (x.toNat : Int)))) :
    Calls Tryd.prog 14 #[.slice (some ad) m c, .pointer (some ⟨bb, 0, none⟩)] W fun e W' => (∃ v, e = .returned v) ∧ WS w0 bb base W' (L ++ M) ∧ KT bb W W' ∧ Own1 bb base W' (L ++ M) := by
  obtain ⟨v, hv, ho⟩ := HS.out.own
  have hm' : 0 < m ∨ W.ownsRow base 5 1 v L.length (cellsB L) := by
    rcases hm with h | ⟨v2, hv2, h2⟩
    · exact .inl h
    · have : (Obj.cells #[v2] 35 (0, 0)) = .cells #[v] 35 (0, 0) := Option.some.inj ((show W.heap[bb]? = _ from hv2).symm.trans hv)
      simp at this; subst this; exact .inr h2
  have HV : Hid (Boxed W bb 35 v) := hv
  have hcell := hv.cell
  have hfz := hv.frozen
  have HO : Hid (RowQ W base v L) := ho
  have HRQ : Hid (∀ j u, (cellsB M)[j]? = some u → W.cell? (ad.add j) = some u) := by
    intro j u hu
    obtain ⟨x, hx, rfl⟩ : ∃ x, M[j]? = some x ∧ u = .int .u8 (x.toNat : Int) := by
      simp only [cellsB, List.getElem?_map, Option.map_eq_some_iff] at hu
      obtain ⟨x, hx, he⟩ := hu
      exact ⟨x, hx, he.symm⟩
    exact HR.out j x hx
  have HM : Hid (0 < m ∨ W.ownsRow base 5 1 v L.length (cellsB L)) := hm'
  have hnb : some bb ≠ v.ownBlock := by
    intro e
    obtain ⟨cs, fz, h9⟩ := ho.blk5 bb e.symm
    rw [show W.heap[bb]? = _ from hv] at h9
    simp at h9
  have HNB : Hid (some bb ≠ v.ownBlock) := hnb
  clear hv ho hm hm' hnb HR
  go_enter Tryd.func14, Tryd.ntmps14
  go_wp2_with (at_builtin; refine wpList_append_Q rfl _ _ rfl HO.out hL HS.out.hsz rfl ad m c rfl hM HM.out hlen HRQ.out ?_)
  intro v' w3 hown' hgrow3
  obtain ⟨g, cap, rfl⟩ : ∃ g cap, v' = .slice (some ⟨g, 0, none⟩) (L.length + m) cap := by
    rcases hown'.2 with ⟨_, h0⟩ | ⟨g, cap, _, rfl, _⟩
    · omega
    · exact ⟨g, cap, rfl⟩
  have hv1 : Boxed w3 bb 35 v := HV.out.kept hgrow3 HNB.out
  have c1 := hv1.cell
  have f1 := hv1.frozen
  have ho3 : (w3.setCell ⟨bb, 0, none⟩ (.slice (some ⟨g, 0, none⟩) (L.length + m) cap)).ownsRow base 5 1 (.slice (some ⟨g, 0, none⟩) (L.length + m) cap) (L ++ M).length (cellsB (L ++ M)) := by
    rw [List.length_append, hM, cellsB_app]
    exact hown'.kept (grownBy_setCell' w3 bb _) (.inr (hv1.not_row (by decide) hown').symm)
  have HW : Hid (WS w0 bb base (w3.setCell ⟨bb, 0, none⟩ (.slice (some ⟨g, 0, none⟩) (L.length + m) cap)) (L ++ M) ∧ Own1 bb base (w3.setCell ⟨bb, 0, none⟩ (.slice (some ⟨g, 0, none⟩) (L.length + m) cap)) (L ++ M)) := by
    refine ⟨⟨?_, HS.out.hb, HS.out.hbase, ?_, HS.out.le, _, hv1.set _, .inl ho3⟩, _, hv1.set _, ho3⟩
    · exact (Below.grown HS.out.below hgrow3 (HS.out.below.size) (fun k hk => by have := HO.out.lt k hk; have := HS.out.hbase; omega)).setCell (p := ⟨bb, 0, none⟩) HS.out.hb _
    · have := hgrow3.size; have := HS.out.hsz; simp; omega
  have HKT : Hid (KT bb W (w3.setCell ⟨bb, 0, none⟩ (.slice (some ⟨g, 0, none⟩) (L.length + m) cap))) := by
    refine ⟨by have := hgrow3.size; simp; omega, fun k o hk hn h5 => ?_⟩
    have hlt := (Array.getElem?_eq_some_iff.1 hk).1
    have hne : some k ≠ v.ownBlock := by
      intro e
      obtain ⟨cs, fz, h9⟩ := HO.out.blk5 k e.symm
      rw [h9] at hk
      cases hk
      exact h5 _ _ rfl
    exact ((grownBy_setCell' w3 bb _).block k (Nat.lt_of_lt_of_le hlt hgrow3.size) (by simp; exact hn)).trans ((hgrow3.block k hlt hne).trans hk)
  clear hown' hgrow3 hv1 HV HO HS HRQ HM HNB ho3 hcell hfz
  go_wp2_with fail
  exact bodyPost_end (v := .tuple #[]) (by simp [results, Tryd.results14, go_sem]) rfl ⟨⟨_, rfl⟩, HW.out.1, HKT.out, HW.out.2⟩

end Go.Proofs.YtcgcljfdfimfgaaDoor
