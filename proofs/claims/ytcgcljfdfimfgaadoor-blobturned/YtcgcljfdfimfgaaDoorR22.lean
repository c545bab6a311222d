import Derived.Test.YtcgcljfdfimfgaaDoorR18
import Derived.Test.YtcgcljfdfimfgaaDoorR21
import Derived.Test.YtcgcljfdfimfgaaDoorR17
import Derived.Deep.QuietTactic
import Derived.BigQuiet
import Derived.Test.YtcgcljfdfimfgaaDoorR7
/- A table in memory, read; contract: blob.shortAbbrs of any table. -/
namespace Go.Proofs.YtcgcljfdfimfgaaDoor
open Go.RowKit Sr
set_option linter.unusedVariables false

def abB (l : List TrR) : Bool := l.all fun x => decide (x.ab.size ≤ 32)
theorem abB_drop {L : List TrR} {j : Nat} {x : TrR} (h : L[j]? = some x) : abB (L.drop j) = (decide (x.ab.size ≤ 32) && abB (L.drop (j + 1))) := by
  obtain ⟨hl, he⟩ := List.getElem?_eq_some_iff.1 h
  rw [List.drop_eq_getElem_cons hl, he]; rfl
def shortB (t : TbR) : Bool := abB t.trs && (decide (t.first.ab.size ≤ 32) && decide (t.foot.A.t.size ≤ 32) && decide (t.foot.B.t.size ≤ 32))

set_option maxRecDepth 100000 in
set_option maxHeartbeats 4000000 in
theorem short_any (t : TbR) (sv : Value) (w : World) (HT : Hid (TrAt w sv t.trs)) (hs1 : t.first.ab.size ≤ maxLen) (hs2 : t.foot.A.t.size ≤ maxLen) (hs3 : t.foot.B.t.size ≤ maxLen) (hsx : ∀ x ∈ t.trs, x.ab.size ≤ maxLen) :
    Calls Tryd.prog 11 #[.agg (tbL t sv).toArray] w fun e w' => e = .returned (.bool (shortB t)) ∧ Below w.heap.size w w' := by
  unfold maxLen at hs1 hs2 hs3 hsx
  have X1 : Hid (Bx (w.alloc (.cells (tbL t sv).toArray 46)) w.heap.size (tbL t sv)) := Bx.new w (tbL t sv) 46
  have B1 : Hid (Below w.heap.size w (w.alloc (.cells (tbL t sv).toArray 46))) := (Below.refl _ _).alloc (Nat.le_refl _) _
  obtain ⟨⟨ao, c, hsv⟩, hml, _⟩ := HT.out
  obtain ⟨n, hn⟩ : ∃ n, t.trs.length = n := ⟨_, rfl⟩
  rw [hn] at hsv hml
  subst hsv
  unfold maxLen at hml
  obtain ⟨G, hG⟩ : ∃ G, shortB t = G := ⟨_, rfl⟩
  rw [hG]
  have HG : Hid ((abB (t.trs.drop 0) && (decide (t.first.ab.size ≤ 32) && decide (t.foot.A.t.size ≤ 32) && decide (t.foot.B.t.size ≤ 32))) = G) := hG
  clear hG
  go_enter Tryd.func11, Tryd.ntmps11
  generalize hUA : (tbL t (.slice ao n c)).toArray = UA at *
  go_upto_region 1 with fail
  refine gen_code (fun V => Bx V w.heap.size (tbL t (.slice ao n c)) ∧ Below w.heap.size w V) ⟨X1.out, B1.out⟩ ?_
  clear X1 B1
  rintro V ⟨XV, BV⟩
  have c5 := XV.c 5 (v := .slice ao n c) rfl
  have HX : Hid (Bx V w.heap.size (tbL t (.slice ao n c))) := XV
  have HB : Hid (Below w.heap.size w V) := BV
  clear XV BV
  go_wp2_with fail
  go_loopw [8] (fun iv wr => ∃ j : Nat, iv = .int .i64 (j : Int) ∧ j ≤ n ∧ Hid (Bx wr w.heap.size (tbL t (.slice ao n c))) ∧ Hid (Below w.heap.size w wr) ∧ Hid ((abB (t.trs.drop j) && (decide (t.first.ab.size ≤ 32) && decide (t.foot.A.t.size ≤ 32) && decide (t.foot.B.t.size ≤ 32))) = G)) (fun iv _ => n - (intOf iv).toNat)
  case atStart => exact ⟨0, rfl, Nat.zero_le _, HX, HB, HG⟩
  case round =>
    clear HX HB HG c5
    obtain ⟨j, rfl, hj, HX, HB, HG⟩ := hrel
    by_cases hjn : j < n
    · obtain ⟨x, hx⟩ : ∃ x, t.trs[j]? = some x := ⟨_, List.getElem?_eq_getElem (by omega)⟩
      obtain ⟨g, o, c', hsv, hrg⟩ := (HT.out.mv (HB.out.mono (Nat.le_refl _))).row hx
      rw [hn] at hsv
      simp only [Value.slice.injEq, true_and] at hsv
      obtain ⟨rfl, rfl⟩ := hsv
      have hx32 := hsx x (List.mem_of_getElem? hx)
      have HRG : Hid (wr.rangeAt g (o + j * 4) (trC x)) := hrg
      rw [abB_drop hx] at HG
      clear hrg hx
      go_wp2_with (first | (refine wpList_load_mid rfl 23 _ rfl g (o + j * 4) rfl [.int .i64 x.at_, .int .i64 x.off, .bool x.dst, .string x.ab] _ HRG.out Tryd.underlying23 rfl (by kernel_rfl) ?_) | fail)
      · have HE : Hid (G = false) := by
          show _ = _
          rw [← HG.out]; simp; intro h9; omega
        exact bodyPost_ret (v := .bool false) (by simp [results, Tryd.results11, go_sem]) rfl ⟨by rw [HE.out], HB.out.alloc HB.out.size _⟩
      · rename_i h32
        have HE : Hid ((abB (t.trs.drop (j + 1)) && (decide (t.first.ab.size ≤ 32) && decide (t.foot.A.t.size ≤ 32) && decide (t.foot.B.t.size ≤ 32))) = G) := by
          have h9 := HG.out
          rw [show decide (x.ab.size ≤ 32) = true from by simp; omega, Bool.true_and] at h9
          exact h9
        exact ⟨⟨j + 1, by simp, by omega, HX.out.alloc _, HB.out.alloc HB.out.size _, HE⟩, by simp [intOf]; omega⟩
    · have c4 := HX.out.c 4 (v := .string t.first.ab) rfl
      have c16 := HX.out.c 16 (v := .string t.foot.A.t) rfl
      have c24 := HX.out.c 24 (v := .string t.foot.B.t) rfl
      have HE : Hid ((decide (t.first.ab.size ≤ 32) && decide (t.foot.A.t.size ≤ 32) && decide (t.foot.B.t.size ≤ 32)) = G) := by
        have h9 := HG.out
        rw [List.drop_eq_nil_of_le (by omega)] at h9
        exact h9
      clear HG HX HT
      go_wp2_with fail
      all_goals (go_ret; refine ⟨ret_b9 ?_, HB.out⟩; have HE' := HE.out; clear HE HB; rw [← HE', Bool.eq_iff_iff]; simp only [Bool.and_eq_true, decide_eq_true_eq]; (try split at *) <;> omega)

end Go.Proofs.YtcgcljfdfimfgaaDoor
/- Mathematics: where the shifts of a foot lie, in which order; each 400 years. -/
namespace Go.Proofs.YtcgcljfdfimfgaaDoor.Fn
open Go.RowKit
set_option linter.unusedVariables false

theorem cum_lin (y m : Int) (h1 : 1 ≤ m) (h2 : m ≤ 12) : 152 * (m - 1) - 10 ≤ 5 * Cv.cum y m ∧ 5 * Cv.cum y m ≤ 152 * (m - 1) + 10 := by
  have l := Cv.lp_01 y
  rcases Cv.twelve h1 h2 with rfl | rfl | rfl | rfl | rfl | rfl | rfl | rfl | rfl | rfl | rfl | rfl <;> simp [Cv.cum] <;> omega

theorem day_bd {y m k d n : Int} (h : dyA m k d n) (hy : dyY y) : fst1 y m - 6 ≤ dyV y m k d n ∧ dyV y m k d n ≤ fst1 y m + 36 := by
  have l := Cv.len_01 y m h.2.1 h.2.2
  unfold dyV
  rw [if_pos h, if_pos hy]
  unfold dayN
  have b1 := bk_bd (fst1 y m + Cv.len y m - 1) d
  have b2 := bk_bd (fst1 y m + n - 1) d
  have b3 := bk_bd (fst1 y m + n - 1 + 7 - 1) d
  rcases h.1 with a | a | a
  · rw [if_pos a.1]; omega
  · rw [if_neg (by omega), if_pos a.1]; omega
  · rw [if_neg (by omega), if_neg (by omega)]; split <;> omega

theorem inst_bd {d s k o v : Int} (s1 : 0 ≤ s) (s2 : s ≤ 86400) (o1 : -50400 ≤ o) (o2 : o ≤ 50400) (v1 : 0 ≤ v) (v2 : v ≤ 7200) :
    (d + 10957) * 86400 - 57600 ≤ inst d s k o v ∧ inst d s k o v ≤ (d + 10957) * 86400 + 136800 := by
  unfold inst
  split
  · omega
  · split <;> omega

/-- the time of a shift, about. -/
theorem tr_bd {off : Int} {h g : Hf} {y : Int} (hh : okH h = true) (hg : okH g = true) (o1 : -50400 ≤ off) (o2 : off ≤ 50400) (hy : dyY y) :
    (Cv.S y + Cv.cum y h.m - 6 + 10957) * 86400 - 57600 ≤ (trOf off h g y).t ∧ (trOf off h g y).t ≤ (Cv.S y + Cv.cum y h.m + 36 + 10957) * 86400 + 136800 := by
  obtain ⟨a1, a2, a3, a4⟩ := okH_of hh
  obtain ⟨b1, b2, b3, b4⟩ := okH_of hg
  obtain ⟨s1, s2, _⟩ := a2
  have d := day_bd (y := y) a1 hy
  have i := inst_bd (d := dyV y h.m h.k h.d h.n) (k := h.z) s1 s2 o1 o2 b3 b4
  unfold fst1 at d
  show _ ≤ inst (dyV y h.m h.k h.d h.n) h.s h.z off g.v ∧ inst (dyV y h.m h.k h.d h.n) h.s h.z off g.v ≤ _
  omega

theorem far_of {m n : Int} (h : far m n = true) : (m + 2 ≤ n ∧ n ≤ m + 10) ∨ (n + 2 ≤ m ∧ m ≤ n + 10) := by
  have := of_decide_eq_true h
  split at this <;> omega

/-- both halves in the order of their months. -/
def lo (f : Ft) : Hf := if f.A.m < f.B.m then f.A else f.B
def hi (f : Ft) : Hf := if f.A.m < f.B.m then f.B else f.A
structure LH (f : Ft) : Prop where
  l : okH (lo f) = true
  h : okH (hi f) = true
  o1 : -50400 ≤ f.off
  o2 : f.off ≤ 50400
  a : (lo f).m + 2 ≤ (hi f).m
  b : (hi f).m ≤ (lo f).m + 10
  m1 : 1 ≤ (lo f).m
  m2 : (hi f).m ≤ 12
theorem lh_of {f : Ft} (hf : okF f = true) : LH f := by
  obtain ⟨o1, o2, hA, hB, hr, _⟩ := okF_of hf
  have a := (okH_of hA).1.2
  have b := (okH_of hB).1.2
  have r := far_of hr
  by_cases h : f.A.m < f.B.m
  · have e1 : lo f = f.A := if_pos h
    have e2 : hi f = f.B := if_pos h
    exact ⟨by rw [e1]; exact hA, by rw [e2]; exact hB, o1, o2, by rw [e1, e2]; omega, by rw [e1, e2]; omega, by rw [e1]; omega, by rw [e2]; omega⟩
  · have e1 : lo f = f.B := if_neg h
    have e2 : hi f = f.A := if_neg h
    exact ⟨by rw [e1]; exact hB, by rw [e2]; exact hA, o1, o2, by rw [e1, e2]; omega, by rw [e1, e2]; omega, by rw [e1]; omega, by rw [e2]; omega⟩

theorem lo_hi {f : Ft} (L : LH f) {y : Int} (hy : dyY y) : (trOf f.off (lo f) (hi f) y).t < (trOf f.off (hi f) (lo f) y).t ∧ (trOf f.off (hi f) (lo f) y).t < (trOf f.off (lo f) (hi f) y).t + 400 * 86400 := by
  have b1 := tr_bd (y := y) L.l L.h L.o1 L.o2 hy
  have b2 := tr_bd (y := y) L.h L.l L.o1 L.o2 hy
  have c1 := cum_lin y (lo f).m L.m1 (by have := L.a; have := L.m2; omega)
  have c2 := cum_lin y (hi f).m (by have := L.a; have := L.m1; omega) L.m2
  have := L.a
  have := L.b
  omega

theorem sh_is {f : Ft} (L : LH f) {y : Int} (hy : dyY y) : sh1 f y = trOf f.off (lo f) (hi f) y ∧ sh2 f y = trOf f.off (hi f) (lo f) y := by
  have h := (lo_hi L hy).1
  by_cases q : f.A.m < f.B.m
  · have e1 : lo f = f.A := if_pos q
    have e2 : hi f = f.B := if_pos q
    rw [e1, e2] at h ⊢
    unfold sh1 sh2
    rw [if_neg (by omega), if_neg (by omega)]
    exact ⟨rfl, rfl⟩
  · have e1 : lo f = f.B := if_neg q
    have e2 : hi f = f.A := if_neg q
    rw [e1, e2] at h ⊢
    unfold sh1 sh2
    rw [if_pos h, if_pos h]
    exact ⟨rfl, rfl⟩

/-- the shifts of all years, one behind the other. -/
def gs (f : Ft) (j : Int) : Tr := if j % 2 = 0 then sh1 f (j / 2) else sh2 f (j / 2)
theorem gs_0 (f : Ft) (y : Int) : gs f (2 * y) = sh1 f y := by unfold gs; rw [if_pos (by omega), show 2 * y / 2 = y by omega]
theorem gs_1 (f : Ft) (y : Int) : gs f (2 * y + 1) = sh2 f y := by unfold gs; rw [if_neg (by omega), show (2 * y + 1) / 2 = y by omega]
theorem shK_gs (f : Ft) (y0 : Int) (k : Nat) : shK f y0 k = gs f (2 * y0 + k) := by
  unfold shK gs
  by_cases h : k % 2 = 0
  · rw [if_pos h, if_pos (by omega), show (2 * y0 + (k : Int)) / 2 = y0 + ((k / 2 : Nat) : Int) by omega]
  · rw [if_neg h, if_neg (by omega), show (2 * y0 + (k : Int)) / 2 = y0 + ((k / 2 : Nat) : Int) by omega]

/-- clocks stand by shift j at t. -/
def St (f : Ft) (t j : Int) : Prop := -9434 ≤ j ∧ j ≤ 588562 ∧ (gs f j).t ≤ t ∧ t < (gs f (j + 1)).t
theorem ends {f : Ft} (L : LH f) {t y : Int} (hy : YAt t y) (y1 : -4714 ≤ y) (y2 : y ≤ 294278) : (gs f (2 * (y - 1))).t ≤ t ∧ t < (gs f (2 * (y - 1) + 5)).t := by
  obtain ⟨hc, a, b⟩ : Cvl.can (t / 86400 - 10957) = true ∧ Cv.S y ≤ t / 86400 - 10957 ∧ t / 86400 - 10957 < Cv.S (y + 1) := by
    rcases hy with h | ⟨_, _, h⟩ | ⟨_, _, h⟩
    · exact h
    · omega
    · omega
  have q0 : dyY (y - 1) := by unfold dyY; omega
  have q1 : dyY (y + 1) := by unfold dyY; omega
  have s := Cv.S_succ (y - 1)
  rw [show y - 1 + 1 = y by omega] at s
  have l := Cv.lp_01 (y - 1)
  have := L.a
  have := L.b
  have := L.m1
  have := L.m2
  constructor
  · rw [gs_0, (sh_is L q0).1]
    have b1 := tr_bd (y := y - 1) L.l L.h L.o1 L.o2 q0
    have c1 := cum_lin (y - 1) (lo f).m L.m1 (by omega)
    omega
  · rw [show 2 * (y - 1) + 5 = 2 * (y + 1) + 1 by omega, gs_1, (sh_is L q1).2]
    have b2 := tr_bd (y := y + 1) L.h L.l L.o1 L.o2 q1
    have c2 := cum_lin (y + 1) (hi f).m (by omega) L.m2
    omega

/-- the place of the first shift behind t, among six. -/
theorem findK {f : Ft} (L : LH f) {t y : Int} (hy : YAt t y) (y1 : -4714 ≤ y) (y2 : y ≤ 294278) :
    ∃ K : Nat, 1 ≤ K ∧ K < 6 ∧ t < (shK f (y - 1) K).t ∧ (∀ k, k < K → (shK f (y - 1) k).t ≤ t) ∧ St f t (2 * (y - 1) + K - 1) := by
  obtain ⟨e0, e5⟩ := ends L hy y1 y2
  have key : ∀ n : Nat, n ≤ 5 → (∃ K : Nat, 1 ≤ K ∧ K ≤ n ∧ t < (shK f (y - 1) K).t ∧ (∀ k, k < K → (shK f (y - 1) k).t ≤ t)) ∨ (∀ k, k ≤ n → (shK f (y - 1) k).t ≤ t) := by
    intro n
    induction n with
    | zero => exact fun _ => .inr (fun k hk => by obtain rfl : k = 0 := (by omega); rw [shK_gs]; simpa using e0)
    | succ n ih =>
      intro hn
      rcases ih (by omega) with ⟨K, a, b, c, d⟩ | h
      · exact .inl ⟨K, a, by omega, c, d⟩
      · by_cases q : t < (shK f (y - 1) (n + 1)).t
        · exact .inl ⟨n + 1, by omega, Nat.le_refl _, q, fun k hk => h k (by omega)⟩
        · exact .inr (fun k hk => by
            by_cases e : k = n + 1
            · rw [e]; omega
            · exact h k (by omega))
  rcases key 5 (Nat.le_refl _) with ⟨K, a, b, c, d⟩ | h
  · refine ⟨K, a, by omega, c, d, by omega, by omega, ?_, ?_⟩
    · have := d (K - 1) (by omega)
      rw [shK_gs, show 2 * (y - 1) + ((K - 1 : Nat) : Int) = 2 * (y - 1) + K - 1 by omega] at this
      exact this
    · rw [shK_gs] at c
      rw [show 2 * (y - 1) + (K : Int) - 1 + 1 = 2 * (y - 1) + K by omega]
      exact c
  · have := h 5 (Nat.le_refl _)
    rw [shK_gs] at this
    have e : 2 * (y - 1) + ((5 : Nat) : Int) = 2 * (y - 1) + 5 := rfl
    rw [e] at this
    omega

end Go.Proofs.YtcgcljfdfimfgaaDoor.Fn
/- At and Next whole; known. -/
namespace Go.Proofs.YtcgcljfdfimfgaaDoor.Fn
open Go.RowKit
set_option linter.unusedVariables false

end Go.Proofs.YtcgcljfdfimfgaaDoor.Fn
/- Seconds ahead that clocks may stand. -/
namespace Go.Proofs.YtcgcljfdfimfgaaDoor
open Go.RowKit
set_option linter.unusedVariables false

def offB (o : Int) : Bool := decide (-57600 ≤ o) && decide (o ≤ 57600)

set_option maxRecDepth 100000 in
set_option maxHeartbeats 4000000 in
theorem isOff_any (o : Int) (w : World) : Calls Tryd.prog 23 #[.int .i64 o] w fun e w' => e = .returned (.bool (offB o)) ∧ w' = w := by
  go_enter Tryd.func23, Tryd.ntmps23
  go_wp2
  all_goals (go_ret; exact ⟨by congr 2; unfold offB; by_cases a1 : -57600 ≤ o <;> by_cases a2 : o ≤ 57600 <;> simp_all <;> omega, rfl⟩)

end Go.Proofs.YtcgcljfdfimfgaaDoor
/- Contract: foot.At of any foot at any instant, whole; zone.isOff. -/
namespace Go.Proofs.YtcgcljfdfimfgaaDoor
open Go.RowKit
open _root_.Go.Proofs.YtcgcljfdfimfgaaDoor.Fn
set_option linter.unusedVariables false

def z9 : Tr := ⟨0, 0, false, ⟨#[]⟩⟩
/-- what foot.At answers. -/
def FAt (f : Ft) (t : Int) (p : Tr) (er : Int) : Prop :=
  (er = 0 ∧ okF f = true ∧ ∃ y j, YAt t y ∧ -4714 ≤ y ∧ y ≤ 294278 ∧ St f t j ∧ p = gs f j) ∨ (er ≠ 0 ∧ p = z9 ∧ (okF f = false ∨ ∃ y, YAt t y ∧ (y < -4714 ∨ 294278 < y)))
theorem fat_any (f : Ft) (t : Int) (t1 : -9223372036854775808 ≤ t) (t2 : t ≤ 9223372036854775807) :
    ∃ p er, FAt f t p er ∧ ∀ w : World, Cvl.Lens w → Clk.Tab w → Calls Tryd.prog 41 #[.agg #[.bool f.h, .int .i64 f.fr, .int .i64 f.off, .int .i64 f.A.m, .int .i64 f.A.k, .int .i64 f.A.d, .int .i64 f.A.n, .int .i64 f.A.s, .int .u8 f.A.z, .int .i64 f.A.v, .string f.A.t, .int .i64 f.B.m, .int .i64 f.B.k, .int .i64 f.B.d, .int .i64 f.B.n, .int .i64 f.B.s, .int .u8 f.B.z, .int .i64 f.B.v, .string f.B.t], .int .i64 t] w fun e w' => e = .returned (.tuple #[.agg #[.int .i64 p.t, .int .i64 p.o, .bool p.d, .string p.a], .int .i64 er]) ∧ Below w.heap.size w w' := by
  cases hf : okF f with
  | false => exact ⟨z9, 1, .inr ⟨by decide, rfl, .inl hf⟩, fun w hL hT => at_run f t z9 z9 1 (fun w hL hT => around_arg f t hf w hL hT) w hL hT⟩
  | true =>
    obtain ⟨y, hy⟩ := yat_is t
    by_cases hr : y < -4714 ∨ 294278 < y
    · exact ⟨z9, 10, .inr ⟨by decide, rfl, .inr ⟨y, hy, hr⟩⟩, fun w hL hT => at_run f t z9 z9 10 (fun w hL hT => around_range f t y hf hy t1 t2 (by omega) w hL hT) w hL hT⟩
    · have y1 : -4714 ≤ y := by omega
      have y2 : y ≤ 294278 := by omega
      obtain ⟨K, k1, k2, hK, hlo, hS⟩ := findK (lh_of hf) hy y1 y2
      refine ⟨_, 0, .inl ⟨rfl, hf, y, _, hy, y1, y2, hS, rfl⟩, fun w hL hT => at_run f t _ (gs f (2 * (y - 1) + K - 1 + 1)) 0 (fun w hL hT => ?_) w hL hT⟩
      have R := around_ok f t y K hf hy y1 y2 t1 t2 k1 k2 hK hlo w hL hT
      have e1 : shK f (y - 1) (K - 1) = gs f (2 * (y - 1) + K - 1) := by rw [shK_gs]; congr 1; omega
      have e2 : shK f (y - 1) K = gs f (2 * (y - 1) + K - 1 + 1) := by rw [shK_gs]; congr 1; omega
      rw [e1, e2] at R
      exact R

end Go.Proofs.YtcgcljfdfimfgaaDoor
