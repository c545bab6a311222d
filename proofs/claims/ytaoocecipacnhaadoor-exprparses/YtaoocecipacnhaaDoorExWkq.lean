/- A node's text as a function; expr.writeKids over what writing a kid owes. -/
import Derived.Test.YtaoocecipacnhaaDoorExStq
import Derived.Test.YtaoocecipacnhaaDoorLnSq
namespace Go.Proofs.YtaoocecipacnhaaDoor
open Go.RowKit
set_option linter.unusedVariables false

/-- texts with one between each two. -/
def jnW (b : List UInt8) : Bool → List (List UInt8) → List UInt8
  | _, [] => []
  | f, x :: l => (if f then [] else b) ++ x ++ jnW b false l
theorem jnW_append (b : List UInt8) : ∀ (f : Bool) (l m : List (List UInt8)), jnW b f (l ++ m) = jnW b f l ++ jnW b (f && l.isEmpty) m
  | f, [], m => by simp [jnW]
  | f, x :: l, m => by simp [jnW, jnW_append b false l m]
def rpQ (t : ByteArray) : List UInt8 := Lib.replaceAll t.data.toList [39] [39, 39]
/-- a node's text of its kind, its own text and its kids'. -/
def frW (k : Int) (t : ByteArray) (l : List (List UInt8)) : List UInt8 :=
  if k = 1 then t.data.toList else if k = 2 then t.data.toList else if k = 4 then t.data.toList
  else if k = 3 then [39] ++ rpQ t ++ [39]
  else if k = 5 then (t.data.toList ++ [32]) ++ jnW [] true l ++ []
  else if k = 6 then [40, 45, 32] ++ jnW [] true l ++ [41]
  else if k = 7 then [40, 110, 111, 116, 32] ++ jnW [] true l ++ [41]
  else if k = 8 then [40] ++ jnW ([32] ++ t.data.toList ++ [32]) true l ++ [41]
  else if k = 9 then (t.data.toList ++ [40]) ++ jnW [44, 32] true l ++ [41]
  else if k = 10 then [40] ++ jnW [] true l ++ ([58, 58] ++ t.data.toList ++ [41])
  else []
mutual
/-- no text of it is long. -/
def tzN : Nd → Bool
  | .mk _ t ks _ => decide (t.size ≤ 100000) && tzL ks
def tzL : List Nd → Bool
  | [] => true
  | n :: l => tzN n && tzL l
end
theorem tzL_mem : ∀ {l : List Nd}, tzL l = true → ∀ n ∈ l, tzN n = true
  | [], _, n, hn => by simp at hn
  | m :: l, h, n, hn => by
    rw [tzL, Bool.and_eq_true] at h
    rcases List.mem_cons.1 hn with rfl | hn
    · exact h.1
    · exact tzL_mem h.2 n hn
mutual
theorem PlN.all : ∀ n : Nd, PlN (fun _ => True) n
  | .mk k t ks a => .mk k t ks a trivial (PlN.alls ks)
theorem PlN.alls : ∀ l : List Nd, ∀ n ∈ l, PlN (fun _ => True) n
  | [], n, h => by simp at h
  | m :: l, n, h => (List.mem_cons.1 h).elim (fun e => e ▸ PlN.all m) (fun q => PlN.alls l n q)
end
mutual
def wrN : Nd → List UInt8
  | .mk k t ks _ => frW k t (wrT ks)
def wrT : List Nd → List (List UInt8)
  | [] => []
  | n :: l => wrN n :: wrT l
end
theorem wrT_map : ∀ l : List Nd, wrT l = l.map wrN
  | [] => by rw [wrT]; rfl
  | n :: l => by rw [wrT, wrT_map l]; rfl
theorem jn_take (b : List UInt8) {l : List Nd} {j : Nat} {n : Nd} (h : l[j]? = some n) : jnW b true (wrT (l.take (j + 1))) = jnW b true (wrT (l.take j)) ++ (if 0 < j then b else []) ++ wrN n := by
  have hj : j < l.length := (List.getElem?_eq_some_iff.1 h).1
  rw [List.take_add_one, h, wrT_map, wrT_map, List.map_append, jnW_append]
  simp only [Option.toList, List.map_cons, List.map_nil, jnW, List.append_nil]
  by_cases h0 : 0 < j
  · have : ((l.take j).map wrN).isEmpty = false := by
      cases j with
      | zero => omega
      | succ j => cases l with
        | nil => simp at hj
        | cons => rfl
    rw [this, if_pos h0]; simp
  · obtain rfl : j = 0 := by omega
    simp
theorem jn_le (b : List UInt8) (l : List Nd) (j : Nat) : (jnW b true (wrT (l.take j))).length ≤ (jnW b true (wrT l)).length := by
  have := jnW_append b true (wrT (l.take j)) (wrT (l.drop j))
  rw [wrT_map, wrT_map, ← List.map_append, List.take_append_drop, ← wrT_map, ← wrT_map] at this
  rw [this, List.length_append]; omega

theorem bytes_str (l : List UInt8) (s : ByteArray) : Lib.byteCells l ++ Lib.strCells s = Lib.byteCells (l ++ s.data.toList) := by simp [Lib.byteCells, Lib.strCells]
theorem built_new (w : World) : Lib.IsBuilderF 64 5 w.heap.size w.heap.size (Lib.byteCells []) (w.alloc (.cells #[.pointer none, .slice none 0 0] 64)) :=
  .inl ⟨Nat.le_refl _, .slice none 0 0, heap_alloc_new w _, World.ownsRowF_nil _ _ _ _, by simp [Value.ownBlock]⟩
theorem built_at {T e : TypeId} {B b : Nat} {p : Value} {bs : List Value} {W W1 : World} (h : Lib.BuilderAtF T e B b p bs W) (hb : Below W.heap.size W W1) : Lib.BuilderAtF T e B b p bs W1 := by
  obtain ⟨hB, v, hh, ho, hne⟩ := h
  refine ⟨hB, v, (hb.block _ (Array.getElem?_eq_some_iff.1 hh).1).trans hh, ⟨ho.1, ?_⟩, hne⟩
  rcases ho.2 with h0 | ⟨g, cap, cur, fz, e0, h1, h2, h3⟩
  · exact .inl h0
  · exact .inr ⟨g, cap, cur, fz, e0, h1, (hb.block _ (Array.getElem?_eq_some_iff.1 h2).1).trans h2, h3⟩
theorem built_below {T e : TypeId} {B b : Nat} {bs : List Value} {W W1 : World} (h : Lib.IsBuilderF T e B b bs W) (hb : Below W.heap.size W W1) : Lib.IsBuilderF T e B b bs W1 :=
  h.elim (fun x => .inl (built_at x hb)) (fun x => .inr (built_at x hb))
theorem built_lt {T e : TypeId} {B b : Nat} {bs : List Value} {W : World} (h : Lib.IsBuilderF T e B b bs W) : b < W.heap.size ∧ B ≤ b := by
  rcases h with ⟨hB, v, hh, _⟩ | ⟨hB, v, hh, _⟩ <;> exact ⟨(Array.getElem?_eq_some_iff.1 hh).1, hB⟩

/-- the text is written so far, from block B on; what lay below stays. -/
def WB (B b : Nat) (w : World) (l : List UInt8) (W : World) : Prop := Lib.IsBuilderF 64 5 B b (Lib.byteCells l) W ∧ Below B w W ∧ B ≤ w.heap.size
theorem WB.le {B b : Nat} {w W : World} {l : List UInt8} (h : WB B b w l W) : B ≤ W.heap.size := Nat.le_trans h.2.2 h.2.1.size
theorem WB.alloc {B b : Nat} {w W : World} {l : List UInt8} (h : WB B b w l W) (o : Obj) : WB B b w l (W.alloc o) := ⟨h.1.alloc _, h.2.1.alloc h.le _, h.2.2⟩
theorem WB.below {B b : Nat} {w W V : World} {l : List UInt8} (h : WB B b w l W) (k : Below W.heap.size W V) : WB B b w l V := ⟨built_below h.1 k, h.2.1.trans (k.mono h.le), h.2.2⟩
theorem WB.start {B b : Nat} {w : World} {l : List UInt8} (h : Lib.IsBuilderF 64 5 B b (Lib.byteCells l) w) (hB : B ≤ w.heap.size) : WB B b w l w := ⟨h, Below.refl _ _, hB⟩
theorem WB.trans {B b : Nat} {w W V : World} {l m : List UInt8} (h : WB B b w l W) (k : WB B b W m V) : WB B b w m V := ⟨k.1, h.2.1.trans k.2.1, h.2.2⟩

/-- one text more. -/
theorem wstr {B b : Nat} {w W : World} {l : List UInt8} (h : WB B b w l W) (s : ByteArray) (hl : l.length + s.size ≤ 1000000000) :
    Calls Tryd.prog 40 #[.pointer (some ⟨b, 0, none⟩), .string s] W fun e w' => e = .returned (.tuple #[.int .i64 s.size, .nilIface]) ∧ WB B b w (l ++ s.data.toList) w' ∧ Lib.OthersKept 5 (some b) W w' ∧ W.heap.size ≤ w'.heap.size := by
  refine (writeString B b (Lib.byteCells l) s W h.1 (by rw [Lib.byteCells_length]; omega) h.le).mono ?_
  rintro e w' ⟨he, h1, h2, h3⟩
  rw [bytes_str] at h1
  exact ⟨he, ⟨.inr h1, h.2.1.trans h2, h.2.2⟩, h3, h2.size⟩

/-- what writing a node owes. -/
def WrOk (n : Nd) : Prop := tzN n = true → ∀ (B b : Nat) (w : World) (pre : List UInt8) (m : Int) (c0 c1 c2 c3 : Value), NdAt (fun c => c < B) w n [c0, c1, c2, c3] → WB B b w pre w → 2 < B → w.cell? ⟨2, 0, none⟩ = some (.int .i64 m) → pre.length + (wrN n).length ≤ 1000000000 →
    Calls Tryd.prog 20 #[.pointer (some ⟨b, 0, none⟩), .agg #[c0, c1, c2, c3]] w fun e w' => e = .returned (.tuple #[]) ∧ WB B b w (pre ++ wrN n) w'

theorem kept_bx {W V : World} {b : Nat} {cs : List Value} {t : TypeId} (h : Lib.OthersKept 5 (some b) (W.alloc (.cells cs.toArray t)) V) (ht : t ≠ 5) (hb : b < W.heap.size) (hs : (W.alloc (.cells cs.toArray t)).heap.size ≤ V.heap.size) : Bx V W.heap.size cs := by
  have e := heap_alloc_new W (.cells cs.toArray t)
  have q := (h _ _ e (by simp; omega) (fun c fz q => by cases q; exact ht rfl)).trans e.symm
  have k := Bx.new W cs t
  exact ⟨Nat.lt_of_lt_of_le k.1 hs, fun i v hv => ⟨(World.cell?_of_block (w := W.alloc (.cells cs.toArray t)) (a := ⟨W.heap.size, i, none⟩) q).trans (k.2 i v hv).1, (World.frozen?_of_block (w := W.alloc (.cells cs.toArray t)) (a := ⟨W.heap.size, i, none⟩) q).trans (k.2 i v hv).2⟩⟩

/-- kids in a row that lies below B. -/
def KdAt (B : Nat) (w : World) (ks : List Nd) (sq : Option Addr) (sc : Nat) : Prop := ∀ j n, ks[j]? = some n → ∃ r, sq = some ⟨r, 0, none⟩ ∧ ks.length ≤ sc ∧ r < B ∧ r < w.heap.size ∧ ∃ d0 d1 d2 d3, w.cell? ⟨r, j * 4, none⟩ = some d0 ∧ w.cell? ⟨r, j * 4 + 1, none⟩ = some d1 ∧ w.cell? ⟨r, j * 4 + 2, none⟩ = some d2 ∧ w.cell? ⟨r, j * 4 + 3, none⟩ = some d3 ∧ NdAt (fun c => c < B) w n [d0, d1, d2, d3]

set_option maxRecDepth 100000 in
set_option maxHeartbeats 4000000 in
theorem wk_any (ks : List Nd) (hW : ∀ n ∈ ks, WrOk n) (htz : tzL ks = true) (B b : Nat) (w : World) (pre : List UInt8) (m : Int) (H M T : ByteArray) (sq : Option Addr) (sc : Nat) (hkl : ks.length ≤ 9223372036854775807) (hG : KdAt B w ks sq sc) (hw : WB B b w pre w) (h2 : 2 < B) (hm : w.cell? ⟨2, 0, none⟩ = some (.int .i64 m)) (hlen : pre.length + H.size + (jnW M.data.toList true (wrT ks)).length + T.size ≤ 1000000000) :
    Calls Tryd.prog 42 #[.pointer (some ⟨b, 0, none⟩), .string H, .slice sq ks.length sc, .string M, .string T] w fun e w' => e = .returned (.tuple #[]) ∧ WB B b w (pre ++ (H.data.toList ++ jnW M.data.toList true (wrT ks) ++ T.data.toList)) w' := by
  have HW : Hid (∀ n ∈ ks, WrOk n) := hW
  have HTz : Hid (tzL ks = true) := htz
  have HG : Hid (KdAt B w ks sq sc) := hG
  have H0 : Hid (WB B b w pre w) := hw
  have HM : Hid (w.cell? ⟨2, 0, none⟩ = some (.int .i64 m)) := hm
  have hHs : H.data.toList.length = H.size := by simp
  have HL : Hid (pre.length + H.data.toList.length + (jnW M.data.toList true (wrT ks)).length + T.size ≤ 1000000000) := by show _ ≤ _; rw [hHs]; exact hlen
  have hB2 : 2 < w.heap.size := by have := hw.2.2; omega
  have hl1 : pre.length + H.size ≤ 1000000000 := by omega
  have hklI : (ks.length : Int) ≤ 9223372036854775807 := by omega
  clear hW hG hw hm hlen hHs htz
  go_enter Tryd.func42, Tryd.ntmps42
  go_wp2_with fail
  refine (wstr H0.out H hl1).mono ?_
  rintro e W1 ⟨rfl, hw1, -, -⟩
  have H1 : Hid (WB B b w (pre ++ H.data.toList) W1) := hw1
  clear hw1
  go_wp2_with fail
  go_loopw [17] (fun i W => ∃ j : Nat, j ≤ ks.length ∧ i = .int .i64 (j : Int) ∧ Hid (WB B b w (pre ++ H.data.toList ++ jnW M.data.toList true (wrT (ks.take j))) W)) (fun i _ => ks.length - (intOf i).toNat)
  case atStart => exact ⟨0, Nat.zero_le _, rfl, by rw [List.take_zero, wrT, jnW, List.append_nil]; exact H1.out⟩
  case round =>
    clear H1
    obtain ⟨j, hj, rfl, H1⟩ := hrel
    have hj0 : (0 : Int) ≤ (j : Int) := by omega
    have hBw := H1.out.le
    have hbB := (built_lt H1.out.1).1
    have hLj : (pre ++ H.data.toList ++ jnW M.data.toList true (wrT (ks.take j))).length + T.size ≤ 1000000000 := by
      have := HL.out; have := jn_le M.data.toList ks j
      simp only [List.length_append]; omega
    by_cases hjl : j < ks.length
    · have hjI : (j : Int) < (ks.length : Int) := by omega
      have hjw : IntKind.i64.wrap ((j : Int) + 1) = (j : Int) + 1 := by rw [IntKind.wrap_i64]; omega
      obtain ⟨r, rfl, hsc, hrB, hrw, d0, d1, d2, d3, y0, y1, y2, y3, hnd⟩ := HG.out j _ (List.getElem?_eq_getElem hjl)
      have et : Hid (jnW M.data.toList true (wrT (ks.take (j + 1))) = jnW M.data.toList true (wrT (ks.take j)) ++ (if 0 < j then M.data.toList else []) ++ wrN ks[j]) := jn_take _ (List.getElem?_eq_getElem hjl)
      have el : Hid ((jnW M.data.toList true (wrT (ks.take (j + 1)))).length ≤ (jnW M.data.toList true (wrT ks)).length) := jn_le _ _ _
      have hl3 : (pre ++ H.data.toList ++ jnW M.data.toList true (wrT (ks.take j))).length + (if 0 < j then M.data.toList else []).length + (wrN ks[j]).length ≤ 1000000000 := by
        have := HL.out; have := el.out
        rw [et.out] at this
        simp only [List.length_append] at this ⊢
        omega
      have hC := HW.out _ (List.getElem_mem hjl) (tzL_mem HTz.out _ (List.getElem_mem hjl))
      have HN : Hid (NdAt (fun c => c < B) w ks[j] [d0, d1, d2, d3]) := hnd
      have v0 := (H1.out.2.1.cell (p := ⟨r, j * 4, none⟩) hrB).trans y0
      have v1 := (H1.out.2.1.cell (p := ⟨r, j * 4 + 1, none⟩) hrB).trans y1
      have v2 := (H1.out.2.1.cell (p := ⟨r, j * 4 + 2, none⟩) hrB).trans y2
      have v3 := (H1.out.2.1.cell (p := ⟨r, j * 4 + 3, none⟩) hrB).trans y3
      have hrr : r < wr.heap.size := by omega
      obtain ⟨k2, t2, sq2, sn2, sc2, a2, rfl, rfl, rfl, rfl⟩ := hnd.form
      have HC : Hid (∀ (V : World) (l : List UInt8), WB B b w l V → l.length + (wrN ks[j]).length ≤ 1000000000 → Calls Tryd.prog 20 #[.pointer (some ⟨b, 0, none⟩), .agg #[.int .i64 k2, .string t2, .slice sq2 sn2 sc2, .int .i64 a2]] V fun e w' => e = .returned (.tuple #[]) ∧ WB B b w (l ++ wrN ks[j]) w') := fun V l hv hl => by
        refine (hC B b V l m _ _ _ _ (NdAt.keep hv.2.1.size (fun c hc _ => ⟨hc, hv.2.1.block c hc⟩) _ _ hnd) (WB.start hv.1 hv.le) h2 ((hv.2.1.cell (p := ⟨2, 0, none⟩) h2).trans HM.out) hl).mono ?_
        rintro e w' ⟨he, hv2⟩
        exact ⟨he, hv.trans hv2⟩
      generalize wrN ks[j] = N at *
      clear y0 y1 y2 y3 hnd hC
      generalize jnW M.data.toList true (wrT (ks.take j)) = J at *
      by_cases hj1 : 0 < j
      · have hj1I : (0 : Int) < (j : Int) := by omega
        rw [if_pos hj1] at hl3
        have hM : M.data.toList.length = M.size := by simp
        have ET : Hid (jnW M.data.toList true (wrT (ks.take (j + 1))) = J ++ M.data.toList ++ N) := by have := et.out; rw [if_pos hj1] at this; exact this
        clear et el
        go_wp2_with fail
        refine (wstr (H1.out.alloc (.cells [.int .i64 k2, .string t2, .slice sq2 sn2 sc2, .int .i64 a2].toArray 24)) M (by omega)).mono ?_
        rintro e V ⟨rfl, hv, hk, hs⟩
        have hX := kept_bx hk (by decide) hbB hs
        have x0 := hX.c 0 rfl
        have x1 := hX.c 1 rfl
        have x2 := hX.c 2 rfl
        have x3 := hX.c 3 rfl
        have hV := hX.1
        have HV : Hid (WB B b w (pre ++ H.data.toList ++ J ++ M.data.toList) V) := hv
        clear hX hv hk hs H1 v0 v1 v2 v3
        go_wp2_with fail
        refine (HC.out V _ HV.out (by rw [List.length_append]; omega)).mono ?_
        rintro e V2 ⟨rfl, hv2⟩
        have HF : Hid (WB B b w (pre ++ H.data.toList ++ jnW M.data.toList true (wrT (ks.take (j + 1)))) V2) := by
          show WB _ _ _ _ _
          rw [ET.out]
          simpa only [List.append_assoc] using hv2
        clear hv2 HV HC x0 x1 x2 x3
        go_wp2
        exact ⟨⟨j + 1, by omega, by simp, HF.out⟩, by simp [intOf]; omega⟩
      · have hj1I : ¬ (0 : Int) < (j : Int) := by omega
        rw [if_neg hj1] at hl3
        have ET : Hid (jnW M.data.toList true (wrT (ks.take (j + 1))) = J ++ N) := by have := et.out; rw [if_neg hj1, List.append_nil] at this; exact this
        clear et el
        go_wp2_with fail
        refine (HC.out _ _ (H1.out.alloc (.cells [.int .i64 k2, .string t2, .slice sq2 sn2 sc2, .int .i64 a2].toArray 24)) (by simp only [List.length_append, List.length_nil, Nat.add_zero] at hl3 ⊢; omega)).mono ?_
        rintro e V2 ⟨rfl, hv2⟩
        have HF : Hid (WB B b w (pre ++ H.data.toList ++ jnW M.data.toList true (wrT (ks.take (j + 1)))) V2) := by
          show WB _ _ _ _ _
          rw [ET.out]
          simpa only [List.append_assoc] using hv2
        clear hv2 HC v0 v1 v2 v3 H1
        go_wp2
        exact ⟨⟨j + 1, by omega, by simp, HF.out⟩, by simp [intOf]; omega⟩
    · obtain rfl : j = ks.length := by omega
      rw [List.take_length] at hLj H1
      have hjI : ¬ (ks.length : Int) < (ks.length : Int) := by omega
      go_wp2_with fail
      refine (wstr H1.out T hLj).mono ?_
      rintro e V ⟨rfl, hv, -, -⟩
      have HV : Hid (WB B b w (pre ++ (H.data.toList ++ jnW M.data.toList true (wrT ks) ++ T.data.toList)) V) := by
        show WB _ _ _ _ _
        simpa only [List.append_assoc] using hv
      clear hv H1
      go_wp2
      exact bodyPost_end (v := .tuple #[]) (by simp [results, Tryd.results42, go_sem]) rfl ⟨rfl, HV.out⟩

end Go.Proofs.YtaoocecipacnhaaDoor
