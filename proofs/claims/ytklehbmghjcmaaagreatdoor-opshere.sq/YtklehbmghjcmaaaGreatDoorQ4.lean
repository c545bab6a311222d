import Derived.Test.YtklehbmghjcmaaaGreatDoorQz
import Derived.Test.YtklehbmghjcmaaaGreatDoorQ3
import Derived.Test.YtklehbmghjcmaaaGreatDoorQ2
import Derived.Test.YtklehbmghjcmaaaGreatDoorQ0
import Derived.Laws.AppendOwn
import Derived.Test.YtklehbmghjcmaaaGreatDoorRows
import Derived.WalkKit
import Derived.WalkSpells
import Derived.WalkLawsBesides
import Derived.Shelf.Small.Wraps
import Derived.Shelf.Strconv.Itoa0
import Derived.Shelf.Strconv.Itoa1
import Derived.Shelf.LaysM
import Derived.Shelf.Strconv.Itoa2
import Derived.Shelf.Strconv.Itoa3
import Derived.Shelf.Strconv.Itoa4
import Derived.Shelf.Strings.Prefix
import Derived.Shelf.Bits.Mul64
import Derived.Test.YtklehbmghjcmaaaGreatDoorProg
import Derived.Lib.ItoaNum
import Derived.Lib.AppendIntMem
import Derived.Lib.ItoaLen
import Derived.Laws.Runes
import Derived.Laws.IdiomStrings
open Go.Value renaming int → vi
open Go.IntKind renaming i64 → ki
open List renaming setIfInBounds_toArray → zb, set_cons_zero → zc, set_cons_succ → zd
open Go.Act renaming put → za
open Go.Ending renaming returned → zr
set_option maxRecDepth 100000
set_option maxHeartbeats 16000000
set_option linter.unusedVariables false
namespace Go.Proofs.YtklehbmghjcmaaaGreatDoor.Fn
open Go.RowKit
def inst (d s k o v : Int) : Int := if k = 117 then (d + 10957) * 86400 + s else if k = 115 then (d + 10957) * 86400 + s - o else (d + 10957) * 86400 + s - o - v
theorem inst_any (d s k o v : Int) (d1 : -1000000000 ≤ d) (d2 : d ≤ 1000000000) (s1 : 0 ≤ s) (s2 : s ≤ 86400) (o1 : -50400 ≤ o) (o2 : o ≤ 50400) (v1 : 0 ≤ v) (v2 : v ≤ 7200) (w : World) :
  Calls Tryz.prog 233 #[vi ki d, vi ki s, .int .u8 k, vi ki o, vi ki v] w fun e w' => e = zr (vi ki (inst d s k o v)) ∧ w' = w := by
 by_cases h1 : k = 117
 ·subst h1
  go_enter Tryz.func233, Tryz.ntmps233
  go_wp2
  go_ret
  exact ⟨Cvl.ret_int (by unfold inst; simp), rfl⟩
 ·by_cases h2 : k = 115
  ·subst h2
   go_enter Tryz.func233, Tryz.ntmps233
   go_wp2
   go_ret
   exact ⟨Cvl.ret_int (by unfold inst; simp), rfl⟩
  ·go_enter Tryz.func233, Tryz.ntmps233
   go_wp2
   go_ret
   exact ⟨Cvl.ret_int (by unfold inst; rw [if_neg h1, if_neg h2]), rfl⟩
theorem rinst_any (d s k o v : Int) (d1 : -1000000000 ≤ d) (d2 : d ≤ 1000000000) (s1 : 0 ≤ s) (s2 : s ≤ 86400) (o1 : -50400 ≤ o) (o2 : o ≤ 50400) (v1 : 0 ≤ v) (v2 : v ≤ 7200) (w : World) :
  Calls Tryz.prog 208 #[vi ki d, vi ki s, .int .u8 k, vi ki o, vi ki v] w fun e w' => e = zr (vi ki (inst d s k o v)) ∧ w' = w := by
 by_cases h1 : k = 117
 ·subst h1
  go_enter Tryz.func208, Tryz.ntmps208
  go_wp2
  go_ret
  exact ⟨Cvl.ret_int (by unfold inst; simp), rfl⟩
 ·by_cases h2 : k = 115
  ·subst h2
   go_enter Tryz.func208, Tryz.ntmps208
   go_wp2
   go_ret
   exact ⟨Cvl.ret_int (by unfold inst; simp), rfl⟩
  ·go_enter Tryz.func208, Tryz.ntmps208
   go_wp2
   go_ret
   exact ⟨Cvl.ret_int (by unfold inst; rw [if_neg h1, if_neg h2]), rfl⟩
def YAt (t y : Int) : Prop :=
 (Cvl.can (t / 86400 - 10957) = true ∧ Cv.S y ≤ t / 86400 - 10957 ∧ t / 86400 - 10957 < Cv.S (y + 1)) ∨ (Cvl.can (t / 86400 - 10957) = false ∧ t < 0 ∧ y = -4718) ∨ (Cvl.can (t / 86400 - 10957) = false ∧ 0 ≤ t ∧ y = 294282)
theorem yat_is (t : Int) : ∃ y, YAt t y := by
 cases h : Cvl.can (t / 86400 - 10957)
 ·by_cases h0 : t < 0
  ·exact ⟨_, .inr (.inl ⟨h, h0, rfl⟩)⟩
  ·exact ⟨_, .inr (.inr ⟨h, by omega, rfl⟩)⟩
 ·obtain ⟨y, h1, h2⟩ := Cv.year_is (t / 86400 - 10957)
  exact ⟨y, .inl ⟨h, h1, h2⟩⟩
theorem yat_run (t q y : Int) (ms : Value) (ds : Value) (er : Int) (h1 : -9223372036854775808 ≤ t) (h2 : t ≤ 9223372036854775807) (hq : q = t / 86400)
  (D : Hid (∀ w : World, Cvl.Lens w → Calls Tryz.prog 126 #[vi ki (q - 10957)] w fun e w' => e = zr (.tuple #[vi ki y, ms, ds, vi ki er]) ∧ w' = w))
  (x : Int) (hx : (er = 0 ∧ x = y) ∨ (er = 10 ∧ t < 0 ∧ x = -4718) ∨ (er = 10 ∧ 0 ≤ t ∧ x = 294282)) (w : World) (hL : Hid (Cvl.Lens w)) :
  Calls Tryz.prog 124 #[vi ki t] w fun e w' => e = zr (vi ki x) ∧ w' = w := by
 have q1 : -200000000000000 ≤ q := by omega
 have q2 : q ≤ 200000000000000 := by omega
 by_cases hm : t.tmod 86400 < 0
 ·have e1 := Cvl.div_down (a := t) (b := 86400) (by decide) hm
  have e2 : t.tdiv 86400 = q + 1 := by omega
  clear e1 hq
  rcases hx with ⟨rfl, rfl⟩ | ⟨rfl, h0, rfl⟩ | ⟨rfl, h0, rfl⟩
  ·go_enter Tryz.func124, Tryz.ntmps124
   go_wp2_with fail
   refine (D.out _ hL.out).mono ?_
   rintro e w1 ⟨rfl, rfl⟩
   go_wp2
   go_ret
   exact ⟨rfl, rfl⟩
  ·go_enter Tryz.func124, Tryz.ntmps124
   go_wp2_with fail
   refine (D.out _ hL.out).mono ?_
   rintro e w1 ⟨rfl, rfl⟩
   go_wp2
   go_ret
   exact ⟨rfl, rfl⟩
  ·have h0' : ¬ t < 0 := by omega
   exact absurd hm (by have := Int.tmod_nonneg 86400 h0; omega)
 ·have e1 := Cvl.div_same (a := t) (b := 86400) (by decide) hm
  have e2 : t.tdiv 86400 = q := by omega
  clear e1 hq
  rcases hx with ⟨rfl, rfl⟩ | ⟨rfl, h0, rfl⟩ | ⟨rfl, h0, rfl⟩
  ·go_enter Tryz.func124, Tryz.ntmps124
   go_wp2_with fail
   refine (D.out _ hL.out).mono ?_
   rintro e w1 ⟨rfl, rfl⟩
   go_wp2
   go_ret
   exact ⟨rfl, rfl⟩
  ·go_enter Tryz.func124, Tryz.ntmps124
   go_wp2_with fail
   refine (D.out _ hL.out).mono ?_
   rintro e w1 ⟨rfl, rfl⟩
   go_wp2
   go_ret
   exact ⟨rfl, rfl⟩
  ·have h0' : ¬ t < 0 := by omega
   go_enter Tryz.func124, Tryz.ntmps124
   go_wp2_with fail
   refine (D.out _ hL.out).mono ?_
   rintro e w1 ⟨rfl, rfl⟩
   go_wp2
   go_ret
   exact ⟨rfl, rfl⟩
theorem yat_any (t y : Int) (h : YAt t y) (h1 : -9223372036854775808 ≤ t) (h2 : t ≤ 9223372036854775807) (w : World) (hL : Cvl.Lens w) :
  Calls Tryz.prog 124 #[vi ki t] w fun e w' => e = zr (vi ki y) ∧ w' = w := by
 rcases h with ⟨a, b, c⟩ | ⟨a, b, c⟩ | ⟨a, b, c⟩
 ·obtain ⟨y', m, d, hd⟩ := Cv.is_date (t / 86400 - 10957)
  obtain ⟨i1, i2⟩ := Cv.is_year hd
  obtain rfl := Cv.year_one b c i1 i2
  exact yat_run t (t / 86400) y (vi ki m) (vi ki d) 0 h1 h2 rfl (fun w hw => Cvl.date_yes _ y m d a hd w hw) y (.inl ⟨rfl, rfl⟩) w hL
 ·exact yat_run t (t / 86400) 0 (vi ki 0) (vi ki 0) 10 h1 h2 rfl (fun w hw => Cvl.date_no _ a w) y (.inr (.inl ⟨rfl, b, c⟩)) w hL
 ·exact yat_run t (t / 86400) 0 (vi ki 0) (vi ki 0) 10 h1 h2 rfl (fun w hw => Cvl.date_no _ a w) y (.inr (.inr ⟨rfl, b, c⟩)) w hL
theorem ryat_run (t q y : Int) (ms : Value) (ds : Value) (er : Int) (h1 : -9223372036854775808 ≤ t) (h2 : t ≤ 9223372036854775807) (hq : q = t / 86400)
  (D : Hid (∀ w : World, Calls Tryz.prog 106 #[vi ki (q - 10957)] w fun e w' => e = zr (.tuple #[vi ki y, ms, ds, vi ki er]) ∧ w' = w))
  (x : Int) (hx : (er = 0 ∧ x = y ∧ ¬ q - 10957 < -2453698) ∨ (q - 10957 < -2453698 ∧ x = -4718) ∨ (er = 10 ∧ ¬ q - 10957 < -2453698 ∧ x = 294282)) (w : World) :
  Calls Tryz.prog 54 #[vi ki t] w fun e w' => e = zr (vi ki x) ∧ w' = w := by
 have q1 : -200000000000000 ≤ q := by omega
 have q2 : q ≤ 200000000000000 := by omega
 by_cases hm : t.tmod 86400 < 0
 ·have e1 := Cvl.div_down (a := t) (b := 86400) (by decide) hm
  have e2 : t.tdiv 86400 = q + 1 := by omega
  clear e1 hq
  rcases hx with ⟨rfl, rfl, h0⟩ | ⟨h0, rfl⟩ | ⟨rfl, h0, rfl⟩ <;>
  ·go_enter Tryz.func54, Tryz.ntmps54
   go_wp2_with (first | (go_at_call 105; refine (Cvl.rfirst_any _).mono ?_; rintro e w1 ⟨rfl, rfl⟩) | (go_at_call 106; refine (D.out _).mono ?_; rintro e w1 ⟨rfl, rfl⟩))
   go_ret
   exact ⟨rfl, rfl⟩
 ·have e1 := Cvl.div_same (a := t) (b := 86400) (by decide) hm
  have e2 : t.tdiv 86400 = q := by omega
  clear e1 hq
  rcases hx with ⟨rfl, rfl, h0⟩ | ⟨h0, rfl⟩ | ⟨rfl, h0, rfl⟩ <;>
  ·go_enter Tryz.func54, Tryz.ntmps54
   go_wp2_with (first | (go_at_call 105; refine (Cvl.rfirst_any _).mono ?_; rintro e w1 ⟨rfl, rfl⟩) | (go_at_call 106; refine (D.out _).mono ?_; rintro e w1 ⟨rfl, rfl⟩))
   go_ret
   exact ⟨rfl, rfl⟩
theorem ryat_any (t y : Int) (h : YAt t y) (h1 : -9223372036854775808 ≤ t) (h2 : t ≤ 9223372036854775807) (w : World) :
  Calls Tryz.prog 54 #[vi ki t] w fun e w' => e = zr (vi ki y) ∧ w' = w := by
 rcases h with ⟨a, b, c⟩ | ⟨a, b, c⟩ | ⟨a, b, c⟩
 ·obtain ⟨y', m, d, hd⟩ := Cv.is_date (t / 86400 - 10957)
  obtain ⟨i1, i2⟩ := Cv.is_year hd
  obtain rfl := Cv.year_one b c i1 i2
  have := (Cvl.of_can a).1
  exact ryat_run t (t / 86400) y (vi ki m) (vi ki d) 0 h1 h2 rfl (fun w => Cvl.rdate_yes _ y m d a hd w) y (.inl ⟨rfl, rfl, by omega⟩) w
 ·have : t / 86400 - 10957 < -2453698 := by
   have hc := of_decide_eq_false a
   omega
  exact ryat_run t (t / 86400) 0 (vi ki 0) (vi ki 0) 10 h1 h2 rfl (fun w => Cvl.rdate_no _ a w) y (.inr (.inl ⟨this, c⟩)) w
 ·have : ¬ t / 86400 - 10957 < -2453698 := by omega
  exact ryat_run t (t / 86400) 0 (vi ki 0) (vi ki 0) 10 h1 h2 rfl (fun w => Cvl.rdate_no _ a w) y (.inr (.inr ⟨rfl, this, c⟩)) w
def far (m n : Int) : Bool := decide (2 ≤ (if n ≤ m then m - n else n - m) ∧ (if n ≤ m then m - n else n - m) ≤ 10)
theorem apart_any (m n : Int) (m1 : 1 ≤ m) (m2 : m ≤ 12) (n1 : 1 ≤ n) (n2 : n ≤ 12) (w : World) :
  Calls Tryz.prog 218 #[vi ki m, vi ki n] w fun e w' => e = zr (.bool (far m n)) ∧ w' = w := by
 go_enter Tryz.func218, Tryz.ntmps218
 go_wp2
 all_goals go_ret
 all_goals refine ⟨Cvl.ret_bool ?_, rfl⟩
 all_goals unfold far
 all_goals first | exact (decide_eq_false (by split <;> omega)).symm | exact decide_eq_decide.2 (by split <;> omega)
end Go.Proofs.YtklehbmghjcmaaaGreatDoor.Fn
namespace Go.Proofs.YtklehbmghjcmaaaGreatDoor
open Go.RowKit Sr
def zeF : List Value := [.bool false, vi ki 0, vi ki 0, vi ki 0, vi ki 0, vi ki 0, vi ki 0, vi ki 0, .int .u8 0, vi ki 0, .string ⟨#[]⟩, vi ki 0, vi ki 0, vi ki 0, vi ki 0, vi ki 0, .int .u8 0, vi ki 0, .string ⟨#[]⟩]
def bkS (sv : Value) : List TrR → List Nat
 | [] => []
 | _ :: _ => match sv with | .slice (some a) _ _ => [a.block] | _ => []
def OkN (sv : Value) (L : List TrR) (W : World) : Prop := TrAt W sv L ∧ Cvl.Lens W
theorem OkN.okS (sv : Value) (L : List TrR) : OkS (1 :: bkS sv L) (OkN sv L) := by
 refine ⟨fun W W' h hs hk => ⟨?_, ?_⟩, fun W h k hk => ?_, fun W h => h⟩
 ·obtain ⟨⟨h1, h2, h3⟩, _⟩ := h
  refine ⟨h1, h2, h3.imp_right ?_⟩
  rintro ⟨g, o, c, e, hg, hc⟩
  refine ⟨g, o, c, e, Nat.lt_of_lt_of_le hg hs, fun j u hj => ?_⟩
  cases L with
  | nil => simp [trCs] at hj
  | cons x l => exact (World.cell?_of_block (w := W) (hk g (by subst e; simp [bkS]))).trans (hc j u hj)
 ·exact fun i hi => (World.cell?_of_block (w := W) (hk _ (by simp))).trans (h.2 i hi)
 ·rcases List.mem_cons.1 hk with rfl | hk
  ·have := h.2 0 (by decide)
   exact World.block_lt_of_cell? W _ this
  ·cases L with
   | nil => simp [bkS] at hk
   | cons x l =>
    obtain ⟨_, _, h3⟩ := h.1
    rcases h3 with h3 | ⟨g, o, c, e, hg, hc⟩
    ·cases h3
    ·subst e; simp [bkS] at hk; omega
theorem OkN.below {sv : Value} {L : List TrR} {W W' : World} (h : OkN sv L W) (hb : Below W.heap.size W W') : OkN sv L W' := (OkN.okS sv L).below h hb
structure NoF (f : TrR) (L : List TrR) : Prop where
 h1 : f.at_ = 0
 h2 : offB f.off = true
 h3 : L.length ≤ 4096
 h4 : ∀ j, j < L.length → OkTr L j
theorem NoF.rises {f : TrR} {L : List TrR} (h : NoF f L) : Zm.Rises (L.map (·.at_)) := rises_of L (fun j p x hp hx => by
 obtain ⟨x', e, _, _, _, k⟩ := h.h4 (j + 1) (List.getElem?_eq_some_iff.1 hx).1
 rw [hx] at e; cases e
 rcases k with k | ⟨p', e, k⟩
 ·omega
 ·rw [Nat.add_sub_cancel, hp] at e; cases e; exact k)
theorem nright (nm : ByteArray) (f : TrR) (sv : Value) (L : List TrR) (h : NoF f L) (w : World) (HT : TrAt w sv L) :
  Calls Tryz.prog 31 #[.agg (tbF nm f sv zeF).toArray] w fun e w' => e = zr (.bool true) ∧ Below w.heap.size w w' :=
 right_gen nm f sv zeF rfl L true true false h.h1 h.h2 h.h3 (fun ⟨j, hj, k⟩ => absurd (h.h4 j hj) k) (fun _ => rfl) (fun W => by kernel_rfl) w HT (fun k => by cases k)
def ask (t : Int) : Prop := -9223372036854775808 ≤ t ∧ t ≤ 9223372036854775807 ∧ ∃ y, Fn.YAt t y ∧ askY y = true
theorem nat_ (nm : ByteArray) (f : TrR) (sv : Value) (L : List TrR) (h : NoF f L) (t : Int) (ht : ask t) (w : World) (HO : OkN sv L w) :
  Calls Tryz.prog 33 #[.agg (tbF nm f sv zeF).toArray, vi ki t] w fun r w' => r = zr (.tuple #[trV (curT f L (Zm.cntLe t (L.map (·.at_)))), vi ki 0]) ∧ Below w.heap.size w w' := by
 obtain ⟨t1, t2, y, hy, ha⟩ := ht
 have R := zat_any nm f sv zeF rfl false 0 t rfl rfl L true (fun _ => ⟨h.rises, h.h3⟩) y zTr 0 w HO.1
  (fun W hb => nright nm f sv L h W (HO.1.mv hb)) (fun W hb => Fn.yat_any t y hy t1 t2 W (HO.below hb).2) (fun _ _ k => by cases k)
 unfold atP atE at R
 rw [if_pos rfl, if_pos rfl, if_pos ha, if_pos ha, if_neg (fun q => absurd q.1 (by decide))] at R
 exact R
def stsN (f : TrR) (L : List TrR) (x : Int) : List Zm.St := Zm.strs (x - 57600) (x + 57600 + 1) (curT f L (Zm.cntLe (x - 57600) (L.map (·.at_)))).off ((Zm.chg (x - 57600) (x + 57600) L).map fun c => (c.at_, c.off))
theorem strs_len (e : Int) : ∀ (l : List (Int × Int)) (a o : Int), (Zm.strs a e o l).length = l.length + 1
 | [], _, _ => rfl
 | c :: l, a, o => by rw [Zm.strs, List.length_cons, strs_len e l, List.length_cons]
theorem strs_off (e : Int) (P : Int → Prop) : ∀ (l : List (Int × Int)) (a o : Int), P o → (∀ c ∈ l, P c.2) → ∀ s ∈ Zm.strs a e o l, P s.o
 | [], a, o, h, _, s, hs => by simp [Zm.strs] at hs; rw [hs]; exact h
 | c :: l, a, o, h, hl, s, hs => by
  rw [Zm.strs] at hs
  rcases List.mem_cons.1 hs with rfl | hs
  ·exact h
  ·exact strs_off e P l c.1 c.2 (hl c List.mem_cons_self) (fun d hd => hl d (List.mem_cons_of_mem _ hd)) s hs
theorem tw_sub {p : TrR → Bool} : ∀ (l : List TrR), (l.takeWhile p).length ≤ l.length ∧ ∀ x ∈ l.takeWhile p, x ∈ l
 | [] => ⟨Nat.le_refl _, fun x h => h⟩
 | a :: l => by
  obtain ⟨h1, h2⟩ := tw_sub (p := p) l
  by_cases h : p a = true
  ·rw [List.takeWhile_cons_of_pos h]
   refine ⟨by simpa using h1, fun x hx => ?_⟩
   rcases List.mem_cons.1 hx with rfl | hx
   ·exact List.mem_cons_self
   ·exact List.mem_cons_of_mem _ (h2 x hx)
  ·rw [List.takeWhile_cons_of_neg h]
   exact ⟨Nat.zero_le _, fun x hx => by cases hx⟩
theorem offB_bd {o : Int} (h : offB o = true) : -57600 ≤ o ∧ o ≤ 57600 := by unfold offB at h; simp at h; exact h
theorem NoF.off {f : TrR} {L : List TrR} (h : NoF f L) {x : TrR} (hx : x ∈ L) : -57600 ≤ x.off ∧ x.off ≤ 57600 := by
 obtain ⟨j, hj⟩ := List.getElem?_of_mem hx
 obtain ⟨x', e, k, _⟩ := h.h4 j (List.getElem?_eq_some_iff.1 hj).1
 rw [hj] at e; cases e
 exact offB_bd k
theorem cur_mem (f : TrR) (L : List TrR) (i : Nat) : curT f L i = f ∨ curT f L i ∈ L := by
 unfold curT
 split
 ·exact .inl rfl
 ·rw [List.getD_eq_getElem?_getD]
  cases h : L[i - 1]? with
  | none => exact .inl rfl
  | some x => exact .inr (List.mem_of_getElem? h)
theorem NoF.cur {f : TrR} {L : List TrR} (h : NoF f L) (i : Nat) : -57600 ≤ (curT f L i).off ∧ (curT f L i).off ≤ 57600 := by
 rcases cur_mem f L i with e | e
 ·rw [e]; exact offB_bd h.h2
 ·exact h.off e
theorem nin_ (nm : ByteArray) (f : TrR) (ao : Option Addr) (n c : Nat) (hnc : n ≤ c) (L : List TrR) (hn : L.length = n) (h : NoF f L) (x : Int) (h0 : ask x) (h1 : ask (x - 57600)) (h2 : ask (x + 57600)) (x1 : -1000000000000000 ≤ x) (x2 : x ≤ 1000000000000000) (w : World) (HO : OkN (.slice ao n c) L w) :
  Calls Tryz.prog 40 #[.agg (tbF nm f (.slice ao n c) zeF).toArray, vi ki x] w fun r w' => r = zr (.tuple #[vi ki (inV (Zm.pGo x (stsN f L x) (⟨0, 0, 0⟩, ⟨0, 0, 0⟩))), vi ki (inH (Zm.pGo x (stsN f L x) (⟨0, 0, 0⟩, ⟨0, 0, 0⟩))), vi ki 0]) ∧ Below w.heap.size w w' := by
 have hS := OkN.okS (.slice ao n c) L
 have AS : ∀ t, ask t → ∀ W : World, Below w.heap.size w W → Calls Tryz.prog 78 #[vi ki t] W fun r w' => r = zr (.bool true) ∧ w' = W := fun t ⟨t1, t2, y, hy, ha⟩ W hb => by
  have R := asked_any t y W (Fn.yat_any t y hy t1 t2 W (HO.below hb).2)
  rw [ha] at R
  exact R
 refine zin_yes _ (tbF_len rfl) x x1 x2 _ w (fun W hb => nright nm f _ L h W (HO.1.mv hb)) (AS _ h0) (AS _ h1) (AS _ h2) (fun W hb => ?_)
 have hl : (stsN f L x).length = (Zm.chg (x - 57600) (x + 57600) L).length + 1 := by unfold stsN; rw [strs_len, List.length_map]
 have hcl : (Zm.chg (x - 57600) (x + 57600) L).length ≤ L.length := Nat.le_trans (tw_sub _).1 (by rw [List.length_drop]; omega)
 have hcm : ∀ c ∈ Zm.chg (x - 57600) (x + 57600) L, c ∈ L := fun c hc => List.mem_of_mem_drop ((tw_sub _).2 c hc)
 refine hear_any _ (tbF_len rfl) _ _ hS x x1 x2 (stsN f L x) (by rw [hl]; have := h.h3; omega) ?_ ?_ W (HO.below hb)
 ·exact strs_off _ (fun o => -57600 ≤ o ∧ o ≤ 57600) _ _ _ (h.cur _) (fun c hc => by obtain ⟨d, hd, rfl⟩ := List.mem_map.1 hc; exact h.off (hcm d hd))
 ·intro V b m hm hV X1 X2 X3
  rw [hl]
  refine strs_seq _ (tbF_len rfl) _ _ hS (x - 57600) (x + 57600 + 1) (by omega) (by omega) (curT f L (Zm.cntLe (x - 57600) (L.map (·.at_)))) (Zm.chg (x - 57600) (x + 57600) L) (fun U hU => ?_) (fun U b m hU Z1 Z2 Z3 => ?_) V m hm _ _ _ X1 X2 X3 hV
  ·have R := stand_any nm f (.slice ao n c) zeF rfl false 0 (x - 57600) rfl rfl L h.rises h.h3 zTr 0 U hU.1 (fun k => by cases k)
   rw [if_neg (fun q => absurd q.1 (by decide))] at R
   exact R
  ·rw [show x + 57600 + 1 - 1 = x + 57600 by omega] at Z3
   exact chs_no _ (tbF_len rfl) _ _ hS (x - 57600) (x + 57600) ao n c hnc L rfl rfl h.rises h.h3 hn (fun V hV => hV.1) U m b (b + 1) (b + 2) Z1 Z2 Z3 hU
def zeT : List Value := tbF ⟨#[]⟩ ⟨0, 0, false, ⟨#[]⟩⟩ (.slice none 0 0) zeF
theorem TrAt.offB {W : World} {g o n c b i : Nat} {v : Value} {L : List TrR} (h : TrAt W (.slice (some ⟨g, o, none⟩) n c) L) (hg : g ≠ b) : TrAt (W.setCell ⟨b, i, none⟩ v) (.slice (some ⟨g, o, none⟩) n c) L := by
 obtain ⟨h1, h2, h3⟩ := h
 refine ⟨h1, h2, h3.imp_right ?_⟩
 rintro ⟨g', o', c', e, hg', hc⟩
 have e0 := e
 simp only [Value.slice.injEq, Option.some.injEq, Addr.mk.injEq] at e
 obtain ⟨⟨rfl, rfl, _⟩, _, rfl⟩ := e
 exact ⟨_, _, _, e0, by simpa using hg', fun j u hj => (World.cell?_setCell_other _ _ _ _ (fun q => hg (by cases q; rfl))).trans (hc j u hj)⟩
theorem results_c1 {P : Program} {fn : Func} {p : Tmp} {ty : TypeId} (h : fn.results = #[.cell p ty]) (tmps : Array Value) (w : World) (a : Addr) (v : Value) (hp : tmps[p]?.getD undef = .pointer (some a)) (hl : (loadVar ty a).run P w = .ok v w) :
  (results fn tmps).run P w = .ok v w := by
 simp [results, h, hp, asAddr, hl]
theorem infoT9 : (Tryz.prog.info? 23).map (fun i => (i.zero, i.size, i.bytes)) = some (some (.agg #[vi ki 0, vi ki 0, .bool false, .string ⟨#[]⟩]), 4, 40) := by kernel_rfl
theorem OkB.okS (sv : Value) (L : List TrR) : OkS (bkS sv L) (fun W => TrAt W sv L) := by
 refine ⟨fun W W' h hs hk => ?_, fun W h k hk => ?_, fun W h => h⟩
 ·obtain ⟨h1, h2, h3⟩ := h
  refine ⟨h1, h2, h3.imp_right ?_⟩
  rintro ⟨g, o, c, e, hg, hc⟩
  refine ⟨g, o, c, e, Nat.lt_of_lt_of_le hg hs, fun j u hj => ?_⟩
  cases L with
  | nil => simp [trCs] at hj
  | cons x l => exact (World.cell?_of_block (w := W) (hk g (by subst e; simp [bkS]))).trans (hc j u hj)
 ·cases L with
  | nil => simp [bkS] at hk
  | cons x l =>
   obtain ⟨_, _, h3⟩ := h
   rcases h3 with h3 | ⟨g, o, c, e, hg, hc⟩
   ·cases h3
   ·subst e; simp [bkS] at hk; omega
end Go.Proofs.YtklehbmghjcmaaaGreatDoor
namespace Go.Proofs.YtklehbmghjcmaaaGreatDoor.Clk
open Go.RowKit
theorem ret_bool {a b : Bool} (h : a = b) : Ending.returned (.bool a) = zr (.bool b) := by rw [h]
def mkOk (h m s us : Int) : Prop := 0 ≤ h ∧ h ≤ 24 ∧ 0 ≤ m ∧ m ≤ 59 ∧ 0 ≤ s ∧ s ≤ 59 ∧ 0 ≤ us ∧ us ≤ 999999 ∧ h * 3600000000 + m * 60000000 + s * 1000000 + us ≤ 86400000000
instance (h m s us : Int) : Decidable (mkOk h m s us) := by unfold mkOk; infer_instance
def mkV (h m s us : Int) : Int := if mkOk h m s us then h * 3600000000 + m * 60000000 + s * 1000000 + us else 0
def mkE (h m s us : Int) : Int := if mkOk h m s us then 0 else 10
theorem parts_out (t : Int) (h : t < 0 ∨ 86400000000 < t) (w : World) :
  Calls Tryz.prog 226 #[vi ki t] w fun e w' => e = zr (.tuple #[vi ki 0, vi ki 0, vi ki 0, vi ki 0, vi ki 10]) ∧ w' = w := by
 rcases h with h | h
 ·go_enter Tryz.func226, Tryz.ntmps226
  go_wp2
  exact bodyPost_ret (v := .tuple #[vi ki 0, vi ki 0, vi ki 0, vi ki 0, vi ki 10]) (by simp [results, Tryz.results226, go_sem]) rfl ⟨rfl, rfl⟩
 ·have h2 : ¬ t < 0 := by omega
  go_enter Tryz.func226, Tryz.ntmps226
  go_wp2
  exact bodyPost_ret (v := .tuple #[vi ki 0, vi ki 0, vi ki 0, vi ki 0, vi ki 10]) (by simp [results, Tryz.results226, go_sem]) rfl ⟨rfl, rfl⟩
theorem parts_in (t H M S U a b : Int) (h1 : 0 ≤ t) (h2 : t ≤ 86400000000) (e1 : t.tdiv 3600000000 = H) (e2 : t.tdiv 60000000 = a) (e3 : a.tmod 60 = M) (e4 : t.tdiv 1000000 = b) (e5 : b.tmod 60 = S) (e6 : t.tmod 1000000 = U)
  (k1 : 0 ≤ H) (k2 : H ≤ 24) (k3 : 0 ≤ a) (k4 : a ≤ 1440) (k5 : 0 ≤ b) (k6 : b ≤ 86400) (w : World) :
  Calls Tryz.prog 226 #[vi ki t] w fun e w' => e = zr (.tuple #[vi ki H, vi ki M, vi ki S, vi ki U, vi ki 0]) ∧ w' = w := by
 have h3 : ¬ t < 0 := by omega
 have h4 : ¬ 86400000000 < t := by omega
 go_enter Tryz.func226, Tryz.ntmps226
 go_wp2
 exact bodyPost_ret (v := .tuple #[vi ki H, vi ki M, vi ki S, vi ki U, vi ki 0]) (by simp [results, Tryz.results226, go_sem]) rfl ⟨rfl, rfl⟩
def isT (t : Int) : Prop := 0 ≤ t ∧ t ≤ 86400000000
instance (t : Int) : Decidable (isT t) := by unfold isT; infer_instance
def tm (x : Int) (t : Int) : Int := if isT t then x else 0
def tmE (t : Int) : Int := if isT t then 0 else 10
theorem parts_any (t : Int) (w : World) :
  Calls Tryz.prog 226 #[vi ki t] w fun e w' => e = zr (.tuple #[vi ki (tm (t / 3600000000) t), vi ki (tm (t / 60000000 % 60) t), vi ki (tm (t / 1000000 % 60) t), vi ki (tm (t % 1000000) t), vi ki (tmE t)]) ∧ w' = w := by
 unfold tm tmE
 by_cases h : isT t
 ·simp only [if_pos h]
  obtain ⟨h1, h2⟩ := h
  have a1 : t.tdiv 60000000 = t / 60000000 := Int.tdiv_eq_ediv_of_nonneg h1
  have b1 : t.tdiv 1000000 = t / 1000000 := Int.tdiv_eq_ediv_of_nonneg h1
  exact parts_in t _ _ _ _ _ _ h1 h2 (Int.tdiv_eq_ediv_of_nonneg h1) a1 (Int.tmod_eq_emod_of_nonneg (by omega)) b1 (Int.tmod_eq_emod_of_nonneg (by omega)) (Int.tmod_eq_emod_of_nonneg h1) (by omega) (by omega) (by omega) (by omega) (by omega) (by omega) w
 ·simp only [if_neg h]
  exact parts_out t (by unfold isT at h; omega) w
end Go.Proofs.YtklehbmghjcmaaaGreatDoor.Clk
namespace Go.Proofs
open Go.Shelf
def Tryz.lays103_ren : Go.Shelf.Ren := ⟨fun | 103 => 232 | 210 => 238 | 206 => 244 | n => n, fun | 9 => 9 | 4 => 4 | 24 => 269 | 3 => 3 | n => n, fun | n => n⟩
theorem Tryz.lays103 : Go.Proofs.Lays.n103 Tryz.prog Tryz.lays103_ren := {
 mixed := by kernel_rfl
 f103 := Tryz.func232.trans (congrArg some (by kernel_rfl))
 f206 := Tryz.func244.trans (congrArg some (by kernel_rfl))
 f210 := Tryz.func238.trans (congrArg some (by kernel_rfl))
 t3 := Tryz.underlying3
 a3 := Tryz.isAgg3
 z3 := Tryz.sizeOf3
 v3 := Tryz.zeroValue3
 t4 := Tryz.underlying4
 a4 := Tryz.isAgg4
 z4 := Tryz.sizeOf4
 v4 := Tryz.zeroValue4
 t9 := Tryz.underlying9
 a9 := Tryz.isAgg9
 z9 := Tryz.sizeOf9
 v9 := Tryz.zeroValue9
 t24 := Tryz.underlying269
 a24 := Tryz.isAgg269
 z24 := Tryz.sizeOf269
 v24 := Tryz.zeroValue269 }
open Go.RowKit in
theorem Tryz.strings_CutPrefix (s p : ByteArray) (w : World) :
  Calls Tryz.prog 232 #[.string s, .string p] w fun e w' => e = zr (.tuple #[.string ⟨(Lib.trimPrefix s.data.toList p.data.toList).toArray⟩, .bool (Lib.hasPrefix s.data.toList p.data.toList)]) ∧ w' = w := Any.strings_CutPrefix Tryz.lays103 s p w
def Tryz.laysM173_ren : Go.Shelf.Ren := ⟨fun | 173 => 227 | 246 => 231 | 283 => 234 | 284 => 235 | 285 => 236 | 286 => 237 | 129 => 240 | 317 => 239 | 318 => 241 | 319 => 242 | 320 => 243 | 337 => 245 | 338 => 246 | n => n, fun | 2 => 2 | 3 => 3 | 9 => 9 | 4 => 4 | 171 => 272 | 0 => 0 | 53 => 203 | 37 => 219 | 5 => 5 | 173 => 275 | 212 => 279 | 51 => 280 | 20 => 20 | 213 => 281 | 46 => 204 | 232 => 284 | 233 => 285 | n => n, fun | 17 => 2 | 18 => 3 | 19 => 4 | n => n⟩
theorem Tryz.laysM173 : Go.Proofs.LaysM.n173 Tryz.prog Tryz.laysM173_ren := {
 mixed := by kernel_rfl
 f129 := Tryz.func240.trans (congrArg some (by kernel_rfl))
 f173 := Tryz.func227.trans (congrArg some (by kernel_rfl))
 f246 := Tryz.func231.trans (congrArg some (by kernel_rfl))
 f283 := Tryz.func234.trans (congrArg some (by kernel_rfl))
 f284 := Tryz.func235.trans (congrArg some (by kernel_rfl))
 f285 := Tryz.func236.trans (congrArg some (by kernel_rfl))
 f286 := Tryz.func237.trans (congrArg some (by kernel_rfl))
 f317 := Tryz.func239.trans (congrArg some (by kernel_rfl))
 f318 := Tryz.func241.trans (congrArg some (by kernel_rfl))
 f319 := Tryz.func242.trans (congrArg some (by kernel_rfl))
 f320 := Tryz.func243.trans (congrArg some (by kernel_rfl))
 f337 := Tryz.func245.trans (congrArg some (by kernel_rfl))
 f338 := Tryz.func246.trans (congrArg some (by kernel_rfl))
 t0 := Tryz.underlying0
 a0 := Tryz.isAgg0
 z0 := Tryz.sizeOf0
 v0 := Tryz.zeroValue0
 t2 := Tryz.underlying2
 a2 := Tryz.isAgg2
 z2 := Tryz.sizeOf2
 v2 := Tryz.zeroValue2
 t3 := Tryz.underlying3
 a3 := Tryz.isAgg3
 z3 := Tryz.sizeOf3
 v3 := Tryz.zeroValue3
 t4 := Tryz.underlying4
 a4 := Tryz.isAgg4
 z4 := Tryz.sizeOf4
 v4 := Tryz.zeroValue4
 t5 := Tryz.underlying5
 a5 := Tryz.isAgg5
 z5 := Tryz.sizeOf5
 v5 := Tryz.zeroValue5
 t9 := Tryz.underlying9
 a9 := Tryz.isAgg9
 z9 := Tryz.sizeOf9
 v9 := Tryz.zeroValue9
 t20 := Tryz.underlying20
 a20 := Tryz.isAgg20
 z20 := Tryz.sizeOf20
 v20 := Tryz.zeroValue20
 t37 := Tryz.underlying219
 a37 := Tryz.isAgg219
 z37 := Tryz.sizeOf219
 v37 := Tryz.zeroValue219
 t46 := Tryz.underlying204
 a46 := Tryz.isAgg204
 z46 := Tryz.sizeOf204
 v46 := Tryz.zeroValue204
 t51 := Tryz.underlying280
 a51 := Tryz.isAgg280
 z51 := Tryz.sizeOf280
 v51 := Tryz.zeroValue280
 t53 := Tryz.underlying203
 a53 := Tryz.isAgg203
 z53 := Tryz.sizeOf203
 v53 := Tryz.zeroValue203
 t171 := Tryz.underlying272
 a171 := Tryz.isAgg272
 z171 := Tryz.sizeOf272
 v171 := Tryz.zeroValue272
 t173 := Tryz.underlying275
 a173 := Tryz.isAgg275
 z173 := Tryz.sizeOf275
 v173 := Tryz.zeroValue275
 t212 := Tryz.underlying279
 a212 := Tryz.isAgg279
 z212 := Tryz.sizeOf279
 v212 := Tryz.zeroValue279
 t213 := Tryz.underlying281
 a213 := Tryz.isAgg281
 z213 := Tryz.sizeOf281
 t232 := Tryz.underlying284
 a232 := Tryz.isAgg284
 z232 := Tryz.sizeOf284
 v232 := Tryz.zeroValue284
 t233 := Tryz.underlying285
 a233 := Tryz.isAgg285
 z233 := Tryz.sizeOf285
 v233 := Tryz.zeroValue285
 g17 := by kernel_rfl
 g18 := by kernel_rfl
 g19 := by kernel_rfl
 i0 := by kernel_rfl
 i2 := by kernel_rfl
 i3 := by kernel_rfl
 i4 := by kernel_rfl
 i5 := by kernel_rfl
 i9 := by kernel_rfl
 i20 := by kernel_rfl
 i37 := by kernel_rfl
 i46 := by kernel_rfl
 i51 := by kernel_rfl
 i53 := by kernel_rfl
 i171 := by kernel_rfl
 i173 := by kernel_rfl
 i212 := by kernel_rfl
 i232 := by kernel_rfl
 i233 := by kernel_rfl
 m17 := by kernel_rfl
 m18 := by kernel_rfl
 m19 := by kernel_rfl }
open Go.RowKit Go.Sort Go.Lib in
theorem Tryz.strconv_FormatInt_10 (n : Int) (h0 : -9223372036854775808 ≤ n) (h1 : n ≤ 9223372036854775807) (w : World) (htab : Lib.TabIs Tryz.prog w "internal/strconv.uint64pow10" .u64 Lib.pow10Tab) :
  Calls Tryz.prog 227 #[vi ki n, vi ki 10] w fun e w' => e = zr (.string ⟨(Lib.itoa n).toArray⟩) ∧ ∃ k os, w' = grow (w.drewN k) os := Any.strconv_FormatInt_10 Tryz.laysM173 n h0 h1 w htab
def Tryz.lays173_ren : Go.Shelf.Ren := ⟨fun | 173 => 227 | 246 => 231 | 283 => 234 | 284 => 235 | 285 => 236 | 286 => 237 | 129 => 240 | 317 => 239 | 318 => 241 | 319 => 242 | 320 => 243 | 337 => 245 | 338 => 246 | n => n, fun | 2 => 2 | 3 => 3 | 9 => 9 | 4 => 4 | 171 => 272 | 0 => 0 | 53 => 203 | 37 => 219 | 5 => 5 | 173 => 275 | 212 => 279 | 51 => 280 | 20 => 20 | 213 => 281 | 46 => 204 | 232 => 284 | 233 => 285 | n => n, fun | 17 => 2 | 18 => 3 | 19 => 4 | n => n⟩
theorem Tryz.lays173 : Go.Proofs.Lays.n173 Tryz.prog Tryz.lays173_ren := {
 mixed := by kernel_rfl
 f129 := Tryz.func240.trans (congrArg some (by kernel_rfl))
 f173 := Tryz.func227.trans (congrArg some (by kernel_rfl))
 f246 := Tryz.func231.trans (congrArg some (by kernel_rfl))
 f283 := Tryz.func234.trans (congrArg some (by kernel_rfl))
 f284 := Tryz.func235.trans (congrArg some (by kernel_rfl))
 f285 := Tryz.func236.trans (congrArg some (by kernel_rfl))
 f286 := Tryz.func237.trans (congrArg some (by kernel_rfl))
 f317 := Tryz.func239.trans (congrArg some (by kernel_rfl))
 f318 := Tryz.func241.trans (congrArg some (by kernel_rfl))
 f319 := Tryz.func242.trans (congrArg some (by kernel_rfl))
 f320 := Tryz.func243.trans (congrArg some (by kernel_rfl))
 f337 := Tryz.func245.trans (congrArg some (by kernel_rfl))
 f338 := Tryz.func246.trans (congrArg some (by kernel_rfl))
 t0 := Tryz.underlying0
 a0 := Tryz.isAgg0
 z0 := Tryz.sizeOf0
 v0 := Tryz.zeroValue0
 t2 := Tryz.underlying2
 a2 := Tryz.isAgg2
 z2 := Tryz.sizeOf2
 v2 := Tryz.zeroValue2
 t3 := Tryz.underlying3
 a3 := Tryz.isAgg3
 z3 := Tryz.sizeOf3
 v3 := Tryz.zeroValue3
 t4 := Tryz.underlying4
 a4 := Tryz.isAgg4
 z4 := Tryz.sizeOf4
 v4 := Tryz.zeroValue4
 t5 := Tryz.underlying5
 a5 := Tryz.isAgg5
 z5 := Tryz.sizeOf5
 v5 := Tryz.zeroValue5
 t9 := Tryz.underlying9
 a9 := Tryz.isAgg9
 z9 := Tryz.sizeOf9
 v9 := Tryz.zeroValue9
 t20 := Tryz.underlying20
 a20 := Tryz.isAgg20
 z20 := Tryz.sizeOf20
 v20 := Tryz.zeroValue20
 t37 := Tryz.underlying219
 a37 := Tryz.isAgg219
 z37 := Tryz.sizeOf219
 v37 := Tryz.zeroValue219
 t46 := Tryz.underlying204
 a46 := Tryz.isAgg204
 z46 := Tryz.sizeOf204
 v46 := Tryz.zeroValue204
 t51 := Tryz.underlying280
 a51 := Tryz.isAgg280
 z51 := Tryz.sizeOf280
 v51 := Tryz.zeroValue280
 t53 := Tryz.underlying203
 a53 := Tryz.isAgg203
 z53 := Tryz.sizeOf203
 v53 := Tryz.zeroValue203
 t171 := Tryz.underlying272
 a171 := Tryz.isAgg272
 z171 := Tryz.sizeOf272
 v171 := Tryz.zeroValue272
 t173 := Tryz.underlying275
 a173 := Tryz.isAgg275
 z173 := Tryz.sizeOf275
 v173 := Tryz.zeroValue275
 t212 := Tryz.underlying279
 a212 := Tryz.isAgg279
 z212 := Tryz.sizeOf279
 v212 := Tryz.zeroValue279
 t213 := Tryz.underlying281
 a213 := Tryz.isAgg281
 z213 := Tryz.sizeOf281
 t232 := Tryz.underlying284
 a232 := Tryz.isAgg284
 z232 := Tryz.sizeOf284
 v232 := Tryz.zeroValue284
 t233 := Tryz.underlying285
 a233 := Tryz.isAgg285
 z233 := Tryz.sizeOf285
 v233 := Tryz.zeroValue285
 g17 := by kernel_rfl
 g18 := by kernel_rfl
 g19 := by kernel_rfl }
open Go.RowKit Go.Sort Go.Lib in
theorem Tryz.strconv_FormatInt_10_small (i : Nat) (hi : i < 100) (w : World) :
  Calls Tryz.prog 227 #[vi ki i, vi ki 10] w fun e w' => e = zr (.string ⟨(Lib.decDigits i).toArray⟩) ∧ w' = w := Any.strconv_FormatInt_10_small Tryz.lays173 i hi w
end Go.Proofs
namespace Go.Proofs.YtklehbmghjcmaaaGreatDoor.Clk
open Go.RowKit
def Tab (w : World) : Prop := Lib.TabIs Tryz.prog w "internal/strconv.uint64pow10" .u64 Lib.pow10Tab
theorem Tab.below {w w1 : World} (h : Tab w) (hb : Below w.heap.size w w1) : Tab w1 := Lib.tabBelow_of_tabIs h w1 hb
theorem formatInt_any (n : Int) (h0 : -9223372036854775808 ≤ n) (h1 : n ≤ 9223372036854775807) (w : World) (hT : Tab w) :
  Calls Tryz.prog 227 #[vi ki n, vi ki 10] w fun e w' => e = zr (.string ⟨(Lib.itoa n).toArray⟩) ∧ Below w.heap.size w w' :=
 (Tryz.strconv_FormatInt_10 n h0 h1 w hT).mono fun e w' ⟨he, k, os, hw⟩ => ⟨he, hw ▸ Lib.below_grow w.heap.size w (Nat.le_refl _) k os⟩
def dgB (n : Int) : ByteArray := ⟨(Lib.decDigits n.natAbs).toArray⟩
theorem nDigits_le {u : Nat} (h : u < 10000000000000000000) : Lib.nDigits u ≤ 19 := by
 have g : ∀ k v : Nat, v < 10 ^ k → 1 ≤ k → Lib.nDigits v ≤ k := by
  intro k
  induction k with
  | zero => intro v _ h1; omega
  | succ k ih =>
   intro v hv _
   by_cases h10 : v < 10
   ·rw [Lib.nDigits_small h10]; omega
   ·rw [Lib.nDigits_big h10]
    have hp : (10 : Nat) ^ (k + 1) = 10 ^ k * 10 := Nat.pow_succ ..
    have : v / 10 < 10 ^ k := by omega
    have hk : 1 ≤ k := by
     cases k with
     | zero => simp at this; omega
     | succ k => omega
    have := ih (v / 10) this hk
    omega
 exact g 19 u (by simpa using h) (by decide)
theorem dgB_size {n : Int} (h0 : -9223372036854775808 ≤ n) (h1 : n ≤ 9223372036854775807) : (dgB n).size ≤ 19 := by
 have : (dgB n).size = (Lib.decDigits n.natAbs).length := rfl
 rw [this, Lib.decDigits_length]
 exact nDigits_le (by omega)
theorem digit_head (u : Nat) : ∃ c l, Lib.decDigits u = c :: l ∧ c ≠ 45 := by
 have h := Lib.decDigits_eq u
 have hp := Lib.nDigits_pos u
 obtain ⟨k, hk⟩ : ∃ k, Lib.nDigits u = k + 1 := ⟨Lib.nDigits u - 1, by omega⟩
 rw [hk] at h
 rw [List.range_succ_eq_map] at h
 refine ⟨_, _, h, ?_⟩
 unfold Lib.dg
 have : ∀ d : Fin 10, UInt8.ofNat (48 + d.val) ≠ 45 := by decide
 exact this ⟨_, Nat.mod_lt _ (by decide)⟩
theorem cut_itoa (n : Int) : Lib.trimPrefix (Lib.itoa n) [45] = Lib.decDigits n.natAbs ∧ Lib.hasPrefix (Lib.itoa n) [45] = decide (n < 0) := by
 unfold Lib.itoa
 by_cases h : n < 0
 ·rw [if_pos h, decide_eq_true h]
  exact ⟨rfl, rfl⟩
 ·rw [if_neg h, decide_eq_false h]
  obtain ⟨c, l, hc, hn⟩ := digit_head n.toNat
  have e : n.natAbs = n.toNat := by omega
  rw [e, hc]
  have hp : Lib.hasPrefix (c :: l) [45] = false := by
   unfold Lib.hasPrefix
   simp only [List.isPrefixOf, Bool.and_eq_false_iff, beq_eq_false_iff_ne]
   exact .inl (fun k => hn k.symm)
  unfold Lib.trimPrefix
  rw [hp]
  exact ⟨rfl, rfl⟩
def padB (d : ByteArray) : ByteArray := if d.size < 2 then ⟨#[48]⟩ ++ d else d
def twoB (n : Int) : ByteArray := if n < 0 then ⟨#[45]⟩ ++ padB (dgB n) else padB (dgB n)
theorem padB_size (d : ByteArray) : (padB d).size ≤ d.size + 1 := by
 unfold padB
 split
 ·rw [ByteArray.size_append]; show 1 + d.size ≤ _; omega
 ·omega
theorem twoB_size {n : Int} (h0 : -9223372036854775808 ≤ n) (h1 : n ≤ 9223372036854775807) : (twoB n).size ≤ 21 := by
 have a := dgB_size h0 h1
 have b := padB_size (dgB n)
 unfold twoB
 split
 ·rw [ByteArray.size_append]; show 1 + (padB (dgB n)).size ≤ _; omega
 ·omega
theorem two_core (n : Int) (S D : ByteArray) (b : Bool) (hD : D.size ≤ 19)
  (H1 : Hid (∀ w : World, Tab w → Calls Tryz.prog 227 #[vi ki n, vi ki 10] w fun e w' => e = zr (.string S) ∧ Below w.heap.size w w'))
  (H2 : Hid (∀ w : World, Calls Tryz.prog 232 #[.string S, .string ⟨#[45]⟩] w fun e w' => e = zr (.tuple #[.string D, .bool b]) ∧ w' = w))
  (w : World) (hT : Hid (Tab w)) :
  Calls Tryz.prog 228 #[vi ki n] w fun e w' => e = zr (.string (if b then ⟨#[45]⟩ ++ padB D else padB D)) ∧ Below w.heap.size w w' := by
 by_cases hs : D.size < 2
 ·have hs' : (D.size : Int) < 2 := by omega
  have hp : Hid (padB D = ⟨#[48]⟩ ++ D) := if_pos hs
  cases b
  all_goals
   go_enter Tryz.func228, Tryz.ntmps228
   go_wp2_with fail
   refine (H1.out _ hT.out).mono ?_
   rintro e w1 ⟨rfl, hb⟩
   go_wp2_with fail
   refine (H2.out _).mono ?_
   rintro e w2 ⟨rfl, rfl⟩
   go_wp2
   go_ret
   exact ⟨by rw [hp.out]; rfl, hb⟩
 ·have hs' : ¬ (D.size : Int) < 2 := by omega
  have hp : Hid (padB D = D) := if_neg hs
  cases b
  all_goals
   go_enter Tryz.func228, Tryz.ntmps228
   go_wp2_with fail
   refine (H1.out _ hT.out).mono ?_
   rintro e w1 ⟨rfl, hb⟩
   go_wp2_with fail
   refine (H2.out _).mono ?_
   rintro e w2 ⟨rfl, rfl⟩
   go_wp2
   go_ret
   exact ⟨by rw [hp.out]; rfl, hb⟩
theorem two_any (n : Int) (h0 : -9223372036854775808 ≤ n) (h1 : n ≤ 9223372036854775807) (w : World) (hT : Tab w) :
  Calls Tryz.prog 228 #[vi ki n] w fun e w' => e = zr (.string (twoB n)) ∧ Below w.heap.size w w' := by
 have H2 : ∀ w : World, Calls Tryz.prog 232 #[.string ⟨(Lib.itoa n).toArray⟩, .string ⟨#[45]⟩] w fun e w' => e = zr (.tuple #[.string (dgB n), .bool (decide (n < 0))]) ∧ w' = w := fun w => by
  have h := Tryz.strings_CutPrefix ⟨(Lib.itoa n).toArray⟩ ⟨#[45]⟩ w
  have e : (⟨(Lib.itoa n).toArray⟩ : ByteArray).data.toList = Lib.itoa n := rfl
  rw [e, show (⟨#[45]⟩ : ByteArray).data.toList = [45] from rfl, (cut_itoa n).1, (cut_itoa n).2] at h
  exact h
 have R := two_core n _ _ _ (dgB_size h0 h1) (fun w h => formatInt_any n h0 h1 w h) H2 w hT
 unfold twoB
 by_cases h : n < 0
 ·rw [if_pos h]; rw [decide_eq_true h] at R; exact R
 ·rw [if_neg h]; rw [decide_eq_false h] at R; exact R
end Go.Proofs.YtklehbmghjcmaaaGreatDoor.Clk
namespace Go.Proofs.YtklehbmghjcmaaaGreatDoor
open Go.RowKit
theorem sizeL (l : List UInt8) : (⟨l.toArray⟩ : ByteArray).size = l.length := by simp [ByteArray.size]
def digB (n : Int) : ByteArray := ⟨(Lib.itoa n).toArray⟩
theorem itoa_nat (i : Nat) : Lib.itoa (i : Int) = Lib.decDigits i := by unfold Lib.itoa; rw [if_neg (by omega)]; simp
theorem format_small (n : Int) (h0 : 0 ≤ n) (h1 : n < 100) (w : World) : Calls Tryz.prog 227 #[vi ki n, vi ki 10] w fun e w' => e = zr (.string (digB n)) ∧ w' = w := by
 obtain ⟨i, rfl⟩ : ∃ i : Nat, n = (i : Int) := ⟨n.toNat, by omega⟩
 have R := Tryz.strconv_FormatInt_10_small i (by omega) w
 unfold digB
 rw [itoa_nat]
 exact R
theorem digB_size (n : Int) (h0 : 0 ≤ n) (h1 : n < 100) : (digB n).size ≤ 21 := by
 have := Lib.itoa_length_le n (by omega) (by omega)
 unfold digB
 rw [sizeL]
 omega
def okAt (s k : Int) : Prop := 0 ≤ s ∧ s ≤ 86400 ∧ (k = 119 ∨ k = 115 ∨ k = 117)
instance (s k : Int) : Decidable (okAt s k) := by unfold okAt; infer_instance
def hmsT (h m s : Int) : ByteArray := if s = 0 then (digB h ++ ⟨#[58]⟩) ++ Clk.twoB m else ((digB h ++ ⟨#[58]⟩) ++ Clk.twoB m) ++ (⟨#[58]⟩ ++ Clk.twoB s)
def atT (s k : Int) : ByteArray := if k = 119 then hmsT (s / 3600) (s / 60 % 60) (s % 60) else hmsT (s / 3600) (s / 60 % 60) (s % 60) ++ ⟨#[UInt8.ofNat k.toNat]⟩
def AtS (w : World) (b : Nat) (s k : Int) (W : World) : Prop :=
 b < W.heap.size ∧ W.cell? ⟨b, 0, none⟩ = some (vi ki s) ∧ W.cell? ⟨b, 1, none⟩ = some (.int .u8 k) ∧ Below w.heap.size w W
theorem AtS.below {w W W1 : World} {b : Nat} {s k : Int} (h : AtS w b s k W) (hb : Below W.heap.size W W1) : AtS w b s k W1 :=
 ⟨Nat.lt_of_lt_of_le h.1 hb.size, (hb.cell (p := ⟨b, 0, none⟩) h.1).trans h.2.1, (hb.cell (p := ⟨b, 1, none⟩) h.1).trans h.2.2.1, h.2.2.2.trans (hb.mono h.2.2.2.size)⟩
theorem AtS.drew {w W : World} {b : Nat} {s k : Int} (h : AtS w b s k W) : AtS w b s k W.drew := ⟨h.1, h.2.1, h.2.2.1, h.2.2.2.drew⟩
theorem AtS.new (w : World) (s k : Int) (t : TypeId) : AtS w w.heap.size s k (w.alloc (.cells #[vi ki s, .int .u8 k] t)) :=
 ⟨by simp, by rw [World.cell?_alloc_at _ _ _ _ rfl]; rfl, by rw [World.cell?_alloc_at _ _ _ _ rfl]; rfl, (Below.refl _ _).alloc (Nat.le_refl _) _⟩
theorem enc_s : Utf8.encode 115 = ⟨#[115]⟩ := by decide +kernel
theorem enc_u : Utf8.encode 117 = ⟨#[117]⟩ := by decide +kernel
theorem tat_lo (s k : Int) (h : s < 0) (w : World) :
  Calls Tryz.prog 222 #[.agg #[vi ki s, .int .u8 k]] w fun e w' => e = zr (.tuple #[.string ⟨#[]⟩, vi ki 1]) ∧ Below w.heap.size w w' := by
 go_enter Tryz.func222, Tryz.ntmps222
 go_wp2
 go_ret2
 exact ⟨rfl, (by repeat' (first | assumption | exact Below.refl _ _ | exact Nat.le_refl _ | refine Below.alloc ?_ ?_ _ | (simp; done) | (simp; omega) | omega))⟩
theorem tat_hi (s k : Int) (h : 86400 < s) (w : World) :
  Calls Tryz.prog 222 #[.agg #[vi ki s, .int .u8 k]] w fun e w' => e = zr (.tuple #[.string ⟨#[]⟩, vi ki 1]) ∧ Below w.heap.size w w' := by
 have h2 : ¬ s < 0 := by omega
 go_enter Tryz.func222, Tryz.ntmps222
 go_wp2
 go_ret2
 exact ⟨rfl, (by repeat' (first | assumption | exact Below.refl _ _ | exact Nat.le_refl _ | refine Below.alloc ?_ ?_ _ | (simp; done) | (simp; omega) | omega))⟩
theorem tat_wz (s h m sc us : Int) (HT MT ST : ByteArray) (z1 : HT.size ≤ 21) (z2 : MT.size ≤ 21) (z3 : ST.size ≤ 21) (s0 : 0 ≤ s) (s1 : s ≤ 86400) (hz : sc = 0) 
  (PA : Hid (∀ w : World, Calls Tryz.prog 226 #[vi ki (s * 1000000)] w fun e w' => e = zr (.tuple #[vi ki h, vi ki m, vi ki sc, vi ki us, vi ki 0]) ∧ w' = w))
  (FI : Hid (∀ w : World, Calls Tryz.prog 227 #[vi ki h, vi ki 10] w fun e w' => e = zr (.string HT) ∧ w' = w))
  (T1 : Hid (∀ w : World, Clk.Tab w → Calls Tryz.prog 228 #[vi ki m] w fun e w' => e = zr (.string MT) ∧ Below w.heap.size w w'))
  (w : World) (hT : Hid (Clk.Tab w)) :
  Calls Tryz.prog 222 #[.agg #[vi ki s, .int .u8 119]] w fun e w' => e = zr (.tuple #[.string ((HT ++ ⟨#[58]⟩) ++ MT), vi ki 0]) ∧ Below w.heap.size w w' := by
 have h1 : ¬ s < 0 := by omega
 have h2 : ¬ 86400 < s := by omega
 subst hz
 have S0 : Hid (AtS w w.heap.size s 119 (w.alloc (.cells #[vi ki s, .int .u8 119] 38))) := AtS.new w _ _ _
 go_enter Tryz.func222, Tryz.ntmps222
 go_wp2_with fail
 refine (PA.out _).mono ?_
 rintro e v1 ⟨rfl, rfl⟩
 go_wp2_with fail
 refine (FI.out _).mono ?_
 rintro e v2 ⟨rfl, rfl⟩
 go_wp2_with fail
 refine (T1.out _ (hT.out.below S0.out.2.2.2)).mono ?_
 rintro e w1 ⟨rfl, hb⟩
 have S1 : Hid (AtS w w.heap.size s 119 w1) := S0.out.below hb
 clear hb S0
 obtain ⟨o1, o2, o3, o4⟩ := id S1.out
 clear o4
 go_wp2
 go_ret2
 exact ⟨rfl, S1.out.2.2.2⟩
theorem tat_wn (s h m sc us : Int) (HT MT ST : ByteArray) (z1 : HT.size ≤ 21) (z2 : MT.size ≤ 21) (z3 : ST.size ≤ 21) (s0 : 0 ≤ s) (s1 : s ≤ 86400) (hz : sc ≠ 0) 
  (PA : Hid (∀ w : World, Calls Tryz.prog 226 #[vi ki (s * 1000000)] w fun e w' => e = zr (.tuple #[vi ki h, vi ki m, vi ki sc, vi ki us, vi ki 0]) ∧ w' = w))
  (FI : Hid (∀ w : World, Calls Tryz.prog 227 #[vi ki h, vi ki 10] w fun e w' => e = zr (.string HT) ∧ w' = w))
  (T1 : Hid (∀ w : World, Clk.Tab w → Calls Tryz.prog 228 #[vi ki m] w fun e w' => e = zr (.string MT) ∧ Below w.heap.size w w'))
  (T2 : Hid (∀ w : World, Clk.Tab w → Calls Tryz.prog 228 #[vi ki sc] w fun e w' => e = zr (.string ST) ∧ Below w.heap.size w w'))
  (w : World) (hT : Hid (Clk.Tab w)) :
  Calls Tryz.prog 222 #[.agg #[vi ki s, .int .u8 119]] w fun e w' => e = zr (.tuple #[.string (((HT ++ ⟨#[58]⟩) ++ MT) ++ (⟨#[58]⟩ ++ ST)), vi ki 0]) ∧ Below w.heap.size w w' := by
 have h1 : ¬ s < 0 := by omega
 have h2 : ¬ 86400 < s := by omega
 have hz1 : (sc != 0) = true := bne_iff_ne.2 hz
 have S0 : Hid (AtS w w.heap.size s 119 (w.alloc (.cells #[vi ki s, .int .u8 119] 38))) := AtS.new w _ _ _
 go_enter Tryz.func222, Tryz.ntmps222
 go_wp2_with fail
 refine (PA.out _).mono ?_
 rintro e v1 ⟨rfl, rfl⟩
 go_wp2_with fail
 refine (FI.out _).mono ?_
 rintro e v2 ⟨rfl, rfl⟩
 go_wp2_with fail
 refine (T1.out _ (hT.out.below S0.out.2.2.2)).mono ?_
 rintro e w1 ⟨rfl, hb⟩
 have S1 : Hid (AtS w w.heap.size s 119 w1) := S0.out.below hb
 clear hb S0
 go_wp2_with fail
 refine (T2.out _ (hT.out.below S1.out.2.2.2)).mono ?_
 rintro e w2 ⟨rfl, hb⟩
 have S2 : Hid (AtS w w.heap.size s 119 w2) := S1.out.below hb
 clear hb S1
 obtain ⟨o1, o2, o3, o4⟩ := id S2.out
 clear o4
 go_wp2
 go_ret2
 exact ⟨rfl, S2.out.2.2.2⟩
theorem tat_sz (s h m sc us : Int) (HT MT ST : ByteArray) (z1 : HT.size ≤ 21) (z2 : MT.size ≤ 21) (z3 : ST.size ≤ 21) (s0 : 0 ≤ s) (s1 : s ≤ 86400) (hz : sc = 0) 
  (PA : Hid (∀ w : World, Calls Tryz.prog 226 #[vi ki (s * 1000000)] w fun e w' => e = zr (.tuple #[vi ki h, vi ki m, vi ki sc, vi ki us, vi ki 0]) ∧ w' = w))
  (FI : Hid (∀ w : World, Calls Tryz.prog 227 #[vi ki h, vi ki 10] w fun e w' => e = zr (.string HT) ∧ w' = w))
  (T1 : Hid (∀ w : World, Clk.Tab w → Calls Tryz.prog 228 #[vi ki m] w fun e w' => e = zr (.string MT) ∧ Below w.heap.size w w'))
  (w : World) (hT : Hid (Clk.Tab w)) :
  Calls Tryz.prog 222 #[.agg #[vi ki s, .int .u8 115]] w fun e w' => e = zr (.tuple #[.string (((HT ++ ⟨#[58]⟩) ++ MT) ++ ⟨#[115]⟩), vi ki 0]) ∧ Below w.heap.size w w' := by
 have h1 : ¬ s < 0 := by omega
 have h2 : ¬ 86400 < s := by omega
 have en := enc_s
 subst hz
 have S0 : Hid (AtS w w.heap.size s 115 (w.alloc (.cells #[vi ki s, .int .u8 115] 38))) := AtS.new w _ _ _
 go_enter Tryz.func222, Tryz.ntmps222
 go_wp2_with fail
 refine (PA.out _).mono ?_
 rintro e v1 ⟨rfl, rfl⟩
 go_wp2_with fail
 refine (FI.out _).mono ?_
 rintro e v2 ⟨rfl, rfl⟩
 go_wp2_with fail
 refine (T1.out _ (hT.out.below S0.out.2.2.2)).mono ?_
 rintro e w1 ⟨rfl, hb⟩
 have S1 : Hid (AtS w w.heap.size s 115 w1) := S0.out.below hb
 clear hb S0
 obtain ⟨o1, o2, o3, o4⟩ := id S1.out
 clear o4
 go_wp2
 go_ret2
 exact ⟨rfl, S1.out.2.2.2⟩
theorem tat_sn (s h m sc us : Int) (HT MT ST : ByteArray) (z1 : HT.size ≤ 21) (z2 : MT.size ≤ 21) (z3 : ST.size ≤ 21) (s0 : 0 ≤ s) (s1 : s ≤ 86400) (hz : sc ≠ 0) 
  (PA : Hid (∀ w : World, Calls Tryz.prog 226 #[vi ki (s * 1000000)] w fun e w' => e = zr (.tuple #[vi ki h, vi ki m, vi ki sc, vi ki us, vi ki 0]) ∧ w' = w))
  (FI : Hid (∀ w : World, Calls Tryz.prog 227 #[vi ki h, vi ki 10] w fun e w' => e = zr (.string HT) ∧ w' = w))
  (T1 : Hid (∀ w : World, Clk.Tab w → Calls Tryz.prog 228 #[vi ki m] w fun e w' => e = zr (.string MT) ∧ Below w.heap.size w w'))
  (T2 : Hid (∀ w : World, Clk.Tab w → Calls Tryz.prog 228 #[vi ki sc] w fun e w' => e = zr (.string ST) ∧ Below w.heap.size w w'))
  (w : World) (hT : Hid (Clk.Tab w)) :
  Calls Tryz.prog 222 #[.agg #[vi ki s, .int .u8 115]] w fun e w' => e = zr (.tuple #[.string ((((HT ++ ⟨#[58]⟩) ++ MT) ++ (⟨#[58]⟩ ++ ST)) ++ ⟨#[115]⟩), vi ki 0]) ∧ Below w.heap.size w w' := by
 have h1 : ¬ s < 0 := by omega
 have h2 : ¬ 86400 < s := by omega
 have en := enc_s
 have hz1 : (sc != 0) = true := bne_iff_ne.2 hz
 have S0 : Hid (AtS w w.heap.size s 115 (w.alloc (.cells #[vi ki s, .int .u8 115] 38))) := AtS.new w _ _ _
 go_enter Tryz.func222, Tryz.ntmps222
 go_wp2_with fail
 refine (PA.out _).mono ?_
 rintro e v1 ⟨rfl, rfl⟩
 go_wp2_with fail
 refine (FI.out _).mono ?_
 rintro e v2 ⟨rfl, rfl⟩
 go_wp2_with fail
 refine (T1.out _ (hT.out.below S0.out.2.2.2)).mono ?_
 rintro e w1 ⟨rfl, hb⟩
 have S1 : Hid (AtS w w.heap.size s 115 w1) := S0.out.below hb
 clear hb S0
 go_wp2_with fail
 refine (T2.out _ (hT.out.below S1.out.2.2.2)).mono ?_
 rintro e w2 ⟨rfl, hb⟩
 have S2 : Hid (AtS w w.heap.size s 115 w2) := S1.out.below hb
 clear hb S1
 obtain ⟨o1, o2, o3, o4⟩ := id S2.out
 clear o4
 go_wp2
 go_ret2
 exact ⟨rfl, S2.out.2.2.2⟩
theorem tat_uz (s h m sc us : Int) (HT MT ST : ByteArray) (z1 : HT.size ≤ 21) (z2 : MT.size ≤ 21) (z3 : ST.size ≤ 21) (s0 : 0 ≤ s) (s1 : s ≤ 86400) (hz : sc = 0) 
  (PA : Hid (∀ w : World, Calls Tryz.prog 226 #[vi ki (s * 1000000)] w fun e w' => e = zr (.tuple #[vi ki h, vi ki m, vi ki sc, vi ki us, vi ki 0]) ∧ w' = w))
  (FI : Hid (∀ w : World, Calls Tryz.prog 227 #[vi ki h, vi ki 10] w fun e w' => e = zr (.string HT) ∧ w' = w))
  (T1 : Hid (∀ w : World, Clk.Tab w → Calls Tryz.prog 228 #[vi ki m] w fun e w' => e = zr (.string MT) ∧ Below w.heap.size w w'))
  (w : World) (hT : Hid (Clk.Tab w)) :
  Calls Tryz.prog 222 #[.agg #[vi ki s, .int .u8 117]] w fun e w' => e = zr (.tuple #[.string (((HT ++ ⟨#[58]⟩) ++ MT) ++ ⟨#[117]⟩), vi ki 0]) ∧ Below w.heap.size w w' := by
 have h1 : ¬ s < 0 := by omega
 have h2 : ¬ 86400 < s := by omega
 have en := enc_u
 subst hz
 have S0 : Hid (AtS w w.heap.size s 117 (w.alloc (.cells #[vi ki s, .int .u8 117] 38))) := AtS.new w _ _ _
 go_enter Tryz.func222, Tryz.ntmps222
 go_wp2_with fail
 refine (PA.out _).mono ?_
 rintro e v1 ⟨rfl, rfl⟩
 go_wp2_with fail
 refine (FI.out _).mono ?_
 rintro e v2 ⟨rfl, rfl⟩
 go_wp2_with fail
 refine (T1.out _ (hT.out.below S0.out.2.2.2)).mono ?_
 rintro e w1 ⟨rfl, hb⟩
 have S1 : Hid (AtS w w.heap.size s 117 w1) := S0.out.below hb
 clear hb S0
 obtain ⟨o1, o2, o3, o4⟩ := id S1.out
 clear o4
 go_wp2
 go_ret2
 exact ⟨rfl, S1.out.2.2.2⟩
theorem tat_un (s h m sc us : Int) (HT MT ST : ByteArray) (z1 : HT.size ≤ 21) (z2 : MT.size ≤ 21) (z3 : ST.size ≤ 21) (s0 : 0 ≤ s) (s1 : s ≤ 86400) (hz : sc ≠ 0) 
  (PA : Hid (∀ w : World, Calls Tryz.prog 226 #[vi ki (s * 1000000)] w fun e w' => e = zr (.tuple #[vi ki h, vi ki m, vi ki sc, vi ki us, vi ki 0]) ∧ w' = w))
  (FI : Hid (∀ w : World, Calls Tryz.prog 227 #[vi ki h, vi ki 10] w fun e w' => e = zr (.string HT) ∧ w' = w))
  (T1 : Hid (∀ w : World, Clk.Tab w → Calls Tryz.prog 228 #[vi ki m] w fun e w' => e = zr (.string MT) ∧ Below w.heap.size w w'))
  (T2 : Hid (∀ w : World, Clk.Tab w → Calls Tryz.prog 228 #[vi ki sc] w fun e w' => e = zr (.string ST) ∧ Below w.heap.size w w'))
  (w : World) (hT : Hid (Clk.Tab w)) :
  Calls Tryz.prog 222 #[.agg #[vi ki s, .int .u8 117]] w fun e w' => e = zr (.tuple #[.string ((((HT ++ ⟨#[58]⟩) ++ MT) ++ (⟨#[58]⟩ ++ ST)) ++ ⟨#[117]⟩), vi ki 0]) ∧ Below w.heap.size w w' := by
 have h1 : ¬ s < 0 := by omega
 have h2 : ¬ 86400 < s := by omega
 have en := enc_u
 have hz1 : (sc != 0) = true := bne_iff_ne.2 hz
 have S0 : Hid (AtS w w.heap.size s 117 (w.alloc (.cells #[vi ki s, .int .u8 117] 38))) := AtS.new w _ _ _
 go_enter Tryz.func222, Tryz.ntmps222
 go_wp2_with fail
 refine (PA.out _).mono ?_
 rintro e v1 ⟨rfl, rfl⟩
 go_wp2_with fail
 refine (FI.out _).mono ?_
 rintro e v2 ⟨rfl, rfl⟩
 go_wp2_with fail
 refine (T1.out _ (hT.out.below S0.out.2.2.2)).mono ?_
 rintro e w1 ⟨rfl, hb⟩
 have S1 : Hid (AtS w w.heap.size s 117 w1) := S0.out.below hb
 clear hb S0
 go_wp2_with fail
 refine (T2.out _ (hT.out.below S1.out.2.2.2)).mono ?_
 rintro e w2 ⟨rfl, hb⟩
 have S2 : Hid (AtS w w.heap.size s 117 w2) := S1.out.below hb
 clear hb S1
 obtain ⟨o1, o2, o3, o4⟩ := id S2.out
 clear o4
 go_wp2
 go_ret2
 exact ⟨rfl, S2.out.2.2.2⟩
theorem tat_xz (s k h m sc us : Int) (HT MT ST : ByteArray) (z1 : HT.size ≤ 21) (z2 : MT.size ≤ 21) (z3 : ST.size ≤ 21) (s0 : 0 ≤ s) (s1 : s ≤ 86400) (hz : sc = 0) (k0 : k ≠ 119) (k1 : k ≠ 115) (k2 : k ≠ 117)
  (PA : Hid (∀ w : World, Calls Tryz.prog 226 #[vi ki (s * 1000000)] w fun e w' => e = zr (.tuple #[vi ki h, vi ki m, vi ki sc, vi ki us, vi ki 0]) ∧ w' = w))
  (FI : Hid (∀ w : World, Calls Tryz.prog 227 #[vi ki h, vi ki 10] w fun e w' => e = zr (.string HT) ∧ w' = w))
  (T1 : Hid (∀ w : World, Clk.Tab w → Calls Tryz.prog 228 #[vi ki m] w fun e w' => e = zr (.string MT) ∧ Below w.heap.size w w'))
  (w : World) (hT : Hid (Clk.Tab w)) :
  Calls Tryz.prog 222 #[.agg #[vi ki s, .int .u8 k]] w fun e w' => e = zr (.tuple #[.string ⟨#[]⟩, vi ki 1]) ∧ Below w.heap.size w w' := by
 have h1 : ¬ s < 0 := by omega
 have h2 : ¬ 86400 < s := by omega
 have q0 : (k == 119) = false := beq_eq_false_iff_ne.2 k0
 have q1 : (k == 115) = false := beq_eq_false_iff_ne.2 k1
 have q2 : (k == 117) = false := beq_eq_false_iff_ne.2 k2
 subst hz
 have S0 : Hid (AtS w w.heap.size s k (w.alloc (.cells #[vi ki s, .int .u8 k] 38))) := AtS.new w _ _ _
 go_enter Tryz.func222, Tryz.ntmps222
 go_wp2_with fail
 refine (PA.out _).mono ?_
 rintro e v1 ⟨rfl, rfl⟩
 go_wp2_with fail
 refine (FI.out _).mono ?_
 rintro e v2 ⟨rfl, rfl⟩
 go_wp2_with fail
 refine (T1.out _ (hT.out.below S0.out.2.2.2)).mono ?_
 rintro e w1 ⟨rfl, hb⟩
 have S1 : Hid (AtS w w.heap.size s k w1) := S0.out.below hb
 clear hb S0
 obtain ⟨o1, o2, o3, o4⟩ := id S1.out
 clear o4
 go_wp2
 go_ret2
 exact ⟨rfl, S1.out.2.2.2⟩
theorem tat_xn (s k h m sc us : Int) (HT MT ST : ByteArray) (z1 : HT.size ≤ 21) (z2 : MT.size ≤ 21) (z3 : ST.size ≤ 21) (s0 : 0 ≤ s) (s1 : s ≤ 86400) (hz : sc ≠ 0) (k0 : k ≠ 119) (k1 : k ≠ 115) (k2 : k ≠ 117)
  (PA : Hid (∀ w : World, Calls Tryz.prog 226 #[vi ki (s * 1000000)] w fun e w' => e = zr (.tuple #[vi ki h, vi ki m, vi ki sc, vi ki us, vi ki 0]) ∧ w' = w))
  (FI : Hid (∀ w : World, Calls Tryz.prog 227 #[vi ki h, vi ki 10] w fun e w' => e = zr (.string HT) ∧ w' = w))
  (T1 : Hid (∀ w : World, Clk.Tab w → Calls Tryz.prog 228 #[vi ki m] w fun e w' => e = zr (.string MT) ∧ Below w.heap.size w w'))
  (T2 : Hid (∀ w : World, Clk.Tab w → Calls Tryz.prog 228 #[vi ki sc] w fun e w' => e = zr (.string ST) ∧ Below w.heap.size w w'))
  (w : World) (hT : Hid (Clk.Tab w)) :
  Calls Tryz.prog 222 #[.agg #[vi ki s, .int .u8 k]] w fun e w' => e = zr (.tuple #[.string ⟨#[]⟩, vi ki 1]) ∧ Below w.heap.size w w' := by
 have h1 : ¬ s < 0 := by omega
 have h2 : ¬ 86400 < s := by omega
 have q0 : (k == 119) = false := beq_eq_false_iff_ne.2 k0
 have q1 : (k == 115) = false := beq_eq_false_iff_ne.2 k1
 have q2 : (k == 117) = false := beq_eq_false_iff_ne.2 k2
 have hz1 : (sc != 0) = true := bne_iff_ne.2 hz
 have S0 : Hid (AtS w w.heap.size s k (w.alloc (.cells #[vi ki s, .int .u8 k] 38))) := AtS.new w _ _ _
 go_enter Tryz.func222, Tryz.ntmps222
 go_wp2_with fail
 refine (PA.out _).mono ?_
 rintro e v1 ⟨rfl, rfl⟩
 go_wp2_with fail
 refine (FI.out _).mono ?_
 rintro e v2 ⟨rfl, rfl⟩
 go_wp2_with fail
 refine (T1.out _ (hT.out.below S0.out.2.2.2)).mono ?_
 rintro e w1 ⟨rfl, hb⟩
 have S1 : Hid (AtS w w.heap.size s k w1) := S0.out.below hb
 clear hb S0
 go_wp2_with fail
 refine (T2.out _ (hT.out.below S1.out.2.2.2)).mono ?_
 rintro e w2 ⟨rfl, hb⟩
 have S2 : Hid (AtS w w.heap.size s k w2) := S1.out.below hb
 clear hb S1
 obtain ⟨o1, o2, o3, o4⟩ := id S2.out
 clear o4
 go_wp2
 go_ret2
 exact ⟨rfl, S2.out.2.2.2⟩
theorem rightAt_yes (s k : Int) (h : okAt s k) (w : World) :
  Calls Tryz.prog 212 #[.agg #[vi ki s, .int .u8 k]] w fun e w' => e = zr (.bool true) ∧ Below w.heap.size w w' := by
 have HO : Hid (okAt s k) := h
 clear h
 by_cases a : 0 ≤ s
 ·by_cases b : s ≤ 86400
  ·by_cases k0 : k = 119
   ·subst k0
    go_enter Tryz.func212, Tryz.ntmps212
    go_wp2
    all_goals first
     | (go_ret; exact ⟨rfl, (by repeat' (first | assumption | exact Below.refl _ _ | exact Nat.le_refl _ | refine Below.alloc ?_ ?_ _ | (simp; done) | (simp; omega) | omega))⟩)
     | (exfalso; have := HO.out; unfold okAt at this; omega)
   ·have e0 : (k == 119) = false := beq_eq_false_iff_ne.2 k0
    by_cases k1 : k = 115
    ·subst k1
     go_enter Tryz.func212, Tryz.ntmps212
     go_wp2
     all_goals first
      | (go_ret; exact ⟨rfl, (by repeat' (first | assumption | exact Below.refl _ _ | exact Nat.le_refl _ | refine Below.alloc ?_ ?_ _ | (simp; done) | (simp; omega) | omega))⟩)
      | (exfalso; have := HO.out; unfold okAt at this; omega)
    ·have e1 : (k == 115) = false := beq_eq_false_iff_ne.2 k1
     by_cases k2 : k = 117
     ·subst k2
      go_enter Tryz.func212, Tryz.ntmps212
      go_wp2
      all_goals first
       | (go_ret; exact ⟨rfl, (by repeat' (first | assumption | exact Below.refl _ _ | exact Nat.le_refl _ | refine Below.alloc ?_ ?_ _ | (simp; done) | (simp; omega) | omega))⟩)
       | (exfalso; have := HO.out; unfold okAt at this; omega)
     ·have e2 : (k == 117) = false := beq_eq_false_iff_ne.2 k2
      go_enter Tryz.func212, Tryz.ntmps212
      go_wp2
      all_goals first
       | (go_ret; exact ⟨rfl, (by repeat' (first | assumption | exact Below.refl _ _ | exact Nat.le_refl _ | refine Below.alloc ?_ ?_ _ | (simp; done) | (simp; omega) | omega))⟩)
       | (exfalso; have := HO.out; unfold okAt at this; omega)
  ·go_enter Tryz.func212, Tryz.ntmps212
   go_wp2
   all_goals first
    | (go_ret; exact ⟨rfl, (by repeat' (first | assumption | exact Below.refl _ _ | exact Nat.le_refl _ | refine Below.alloc ?_ ?_ _ | (simp; done) | (simp; omega) | omega))⟩)
    | (exfalso; have := HO.out; unfold okAt at this; omega)
 ·go_enter Tryz.func212, Tryz.ntmps212
  go_wp2
  all_goals first
   | (go_ret; exact ⟨rfl, (by repeat' (first | assumption | exact Below.refl _ _ | exact Nat.le_refl _ | refine Below.alloc ?_ ?_ _ | (simp; done) | (simp; omega) | omega))⟩)
   | (exfalso; have := HO.out; unfold okAt at this; omega)
theorem rightAt_no (s k : Int) (h : ¬ okAt s k) (w : World) :
  Calls Tryz.prog 212 #[.agg #[vi ki s, .int .u8 k]] w fun e w' => e = zr (.bool false) ∧ Below w.heap.size w w' := by
 have HO : Hid (¬ okAt s k) := h
 clear h
 by_cases a : 0 ≤ s
 ·by_cases b : s ≤ 86400
  ·by_cases k0 : k = 119
   ·subst k0
    go_enter Tryz.func212, Tryz.ntmps212
    go_wp2
    all_goals first
     | (go_ret; exact ⟨rfl, (by repeat' (first | assumption | exact Below.refl _ _ | exact Nat.le_refl _ | refine Below.alloc ?_ ?_ _ | (simp; done) | (simp; omega) | omega))⟩)
     | (exfalso; have := HO.out; unfold okAt at this; omega)
   ·have e0 : (k == 119) = false := beq_eq_false_iff_ne.2 k0
    by_cases k1 : k = 115
    ·subst k1
     go_enter Tryz.func212, Tryz.ntmps212
     go_wp2
     all_goals first
      | (go_ret; exact ⟨rfl, (by repeat' (first | assumption | exact Below.refl _ _ | exact Nat.le_refl _ | refine Below.alloc ?_ ?_ _ | (simp; done) | (simp; omega) | omega))⟩)
      | (exfalso; have := HO.out; unfold okAt at this; omega)
    ·have e1 : (k == 115) = false := beq_eq_false_iff_ne.2 k1
     by_cases k2 : k = 117
     ·subst k2
      go_enter Tryz.func212, Tryz.ntmps212
      go_wp2
      all_goals first
       | (go_ret; exact ⟨rfl, (by repeat' (first | assumption | exact Below.refl _ _ | exact Nat.le_refl _ | refine Below.alloc ?_ ?_ _ | (simp; done) | (simp; omega) | omega))⟩)
       | (exfalso; have := HO.out; unfold okAt at this; omega)
     ·have e2 : (k == 117) = false := beq_eq_false_iff_ne.2 k2
      go_enter Tryz.func212, Tryz.ntmps212
      go_wp2
      all_goals first
       | (go_ret; exact ⟨rfl, (by repeat' (first | assumption | exact Below.refl _ _ | exact Nat.le_refl _ | refine Below.alloc ?_ ?_ _ | (simp; done) | (simp; omega) | omega))⟩)
       | (exfalso; have := HO.out; unfold okAt at this; omega)
  ·go_enter Tryz.func212, Tryz.ntmps212
   go_wp2
   all_goals first
    | (go_ret; exact ⟨rfl, (by repeat' (first | assumption | exact Below.refl _ _ | exact Nat.le_refl _ | refine Below.alloc ?_ ?_ _ | (simp; done) | (simp; omega) | omega))⟩)
    | (exfalso; have := HO.out; unfold okAt at this; omega)
 ·go_enter Tryz.func212, Tryz.ntmps212
  go_wp2
  all_goals first
   | (go_ret; exact ⟨rfl, (by repeat' (first | assumption | exact Below.refl _ _ | exact Nat.le_refl _ | refine Below.alloc ?_ ?_ _ | (simp; done) | (simp; omega) | omega))⟩)
   | (exfalso; have := HO.out; unfold okAt at this; omega)
end Go.Proofs.YtklehbmghjcmaaaGreatDoor
namespace Go.Proofs.YtklehbmghjcmaaaGreatDoor.Fn
open Go.RowKit
theorem tat_yes (s k : Int) (h : okAt s k) (w : World) (hT : Clk.Tab w) :
  Calls Tryz.prog 222 #[.agg #[vi ki s, .int .u8 k]] w fun e w' => e = zr (.tuple #[.string (atT s k), vi ki 0]) ∧ Below w.heap.size w w' := by
 obtain ⟨s0, s1, hk⟩ := h
 have PA : Hid (∀ w : World, Calls Tryz.prog 226 #[vi ki (s * 1000000)] w fun e w' => e = zr (.tuple #[vi ki (s / 3600), vi ki (s / 60 % 60), vi ki (s % 60), vi ki 0, vi ki 0]) ∧ w' = w) := fun w => by
  have t0 : 0 ≤ s * 1000000 := by omega
  refine Clk.parts_in (s * 1000000) (s / 3600) (s / 60 % 60) (s % 60) 0 (s / 60) s t0 (by omega) ?_ ?_ ?_ ?_ ?_ ?_ (by omega) (by omega) (by omega) (by omega) s0 (by omega) w
  ·rw [Int.tdiv_eq_ediv_of_nonneg t0]; omega
  ·rw [Int.tdiv_eq_ediv_of_nonneg t0]; omega
  ·rw [Int.tmod_eq_emod_of_nonneg (by omega)]
  ·rw [Int.tdiv_eq_ediv_of_nonneg t0]; omega
  ·rw [Int.tmod_eq_emod_of_nonneg s0]
  ·rw [Int.tmod_eq_emod_of_nonneg t0]; omega
 have FI := format_small (s / 3600) (by omega) (by omega)
 have T1 := Clk.two_any (s / 60 % 60) (by omega) (by omega)
 have T2 := Clk.two_any (s % 60) (by omega) (by omega)
 have z1 := digB_size (s / 3600) (by omega) (by omega)
 have z2 := Clk.twoB_size (n := s / 60 % 60) (by omega) (by omega)
 have z3 := Clk.twoB_size (n := s % 60) (by omega) (by omega)
 unfold atT hmsT
 by_cases hz : s % 60 = 0
 ·simp only [if_pos hz]
  rcases hk with rfl | rfl | rfl
  ·exact tat_wz s _ _ _ _ _ _ _ z1 z2 z3 s0 s1 hz PA FI T1 w hT
  ·exact tat_sz s _ _ _ _ _ _ _ z1 z2 z3 s0 s1 hz PA FI T1 w hT
  ·exact tat_uz s _ _ _ _ _ _ _ z1 z2 z3 s0 s1 hz PA FI T1 w hT
 ·simp only [if_neg hz]
  rcases hk with rfl | rfl | rfl
  ·exact tat_wn s _ _ _ _ _ _ _ z1 z2 z3 s0 s1 hz PA FI T1 T2 w hT
  ·exact tat_sn s _ _ _ _ _ _ _ z1 z2 z3 s0 s1 hz PA FI T1 T2 w hT
  ·exact tat_un s _ _ _ _ _ _ _ z1 z2 z3 s0 s1 hz PA FI T1 T2 w hT
theorem tat_no (s k : Int) (h : ¬ okAt s k) (w : World) (hT : Clk.Tab w) :
  Calls Tryz.prog 222 #[.agg #[vi ki s, .int .u8 k]] w fun e w' => e = zr (.tuple #[.string ⟨#[]⟩, vi ki 1]) ∧ Below w.heap.size w w' := by
 by_cases a : s < 0
 ·exact tat_lo s k a w
 ·by_cases b : 86400 < s
  ·exact tat_hi s k b w
  ·have s0 : 0 ≤ s := by omega
   have s1 : s ≤ 86400 := by omega
   have hk : k ≠ 119 ∧ k ≠ 115 ∧ k ≠ 117 := by unfold okAt at h; omega
   have PA : Hid (∀ w : World, Calls Tryz.prog 226 #[vi ki (s * 1000000)] w fun e w' => e = zr (.tuple #[vi ki (s / 3600), vi ki (s / 60 % 60), vi ki (s % 60), vi ki 0, vi ki 0]) ∧ w' = w) := fun w => by
    have t0 : 0 ≤ s * 1000000 := by omega
    refine Clk.parts_in (s * 1000000) (s / 3600) (s / 60 % 60) (s % 60) 0 (s / 60) s t0 (by omega) ?_ ?_ ?_ ?_ ?_ ?_ (by omega) (by omega) (by omega) (by omega) s0 (by omega) w
    ·rw [Int.tdiv_eq_ediv_of_nonneg t0]; omega
    ·rw [Int.tdiv_eq_ediv_of_nonneg t0]; omega
    ·rw [Int.tmod_eq_emod_of_nonneg (by omega)]
    ·rw [Int.tdiv_eq_ediv_of_nonneg t0]; omega
    ·rw [Int.tmod_eq_emod_of_nonneg s0]
    ·rw [Int.tmod_eq_emod_of_nonneg t0]; omega
   have FI := format_small (s / 3600) (by omega) (by omega)
   have T1 := Clk.two_any (s / 60 % 60) (by omega) (by omega)
   have T2 := Clk.two_any (s % 60) (by omega) (by omega)
   have z1 := digB_size (s / 3600) (by omega) (by omega)
   have z2 := Clk.twoB_size (n := s / 60 % 60) (by omega) (by omega)
   have z3 := Clk.twoB_size (n := s % 60) (by omega) (by omega)
   by_cases hz : s % 60 = 0
   ·exact tat_xz s k _ _ _ _ _ _ _ z1 z2 z3 s0 s1 hz hk.1 hk.2.1 hk.2.2 PA FI T1 w hT
   ·exact tat_xn s k _ _ _ _ _ _ _ z1 z2 z3 s0 s1 hz hk.1 hk.2.1 hk.2.2 PA FI T1 T2 w hT
structure Hf where
 (m k d n s z v : Int)
 (t : ByteArray)
structure Ft where
 (h : Bool)
 (fr off : Int)
 (A B : Hf)
structure Tr where
 (t o : Int)
 (d : Bool)
 (a : ByteArray)
def hL (a : Hf) : List Value := [vi ki a.m, vi ki a.k, vi ki a.d, vi ki a.n, vi ki a.s, .int .u8 a.z, vi ki a.v, .string a.t]
def fL (f : Ft) : List Value := [.bool f.h, vi ki f.fr, vi ki f.off, vi ki f.A.m, vi ki f.A.k, vi ki f.A.d, vi ki f.A.n, vi ki f.A.s, .int .u8 f.A.z, vi ki f.A.v, .string f.A.t, vi ki f.B.m, vi ki f.B.k, vi ki f.B.d, vi ki f.B.n, vi ki f.B.s, .int .u8 f.B.z, vi ki f.B.v, .string f.B.t]
def tL (x : Tr) : List Value := [vi ki x.t, vi ki x.o, .bool x.d, .string x.a]
def Bx (W : World) (b : Nat) (l : List Value) : Prop := b < W.heap.size ∧ ∀ i v, l[i]? = some v → W.cell? ⟨b, i, none⟩ = some v ∧ W.frozen? ⟨b, i, none⟩ = false
theorem Bx.below {W W' : World} {b : Nat} {l : List Value} (h : Bx W b l) (hb : Below W.heap.size W W') : Bx W' b l :=
 ⟨Nat.lt_of_lt_of_le h.1 hb.size, fun i v e => ⟨(hb.cell (p := ⟨b, i, none⟩) h.1).trans (h.2 i v e).1, (hb.frozen (p := ⟨b, i, none⟩) h.1).trans (h.2 i v e).2⟩⟩
theorem Bx.alloc {W : World} {b : Nat} {l : List Value} (h : Bx W b l) (o : Obj) : Bx (W.alloc o) b l := h.below ((Below.refl _ W).alloc (Nat.le_refl _) o)
theorem Bx.new (w : World) (l : List Value) (t : TypeId) : Bx (w.alloc (.cells l.toArray t)) w.heap.size l :=
 ⟨by simp, fun i v e => ⟨by rw [World.cell?_alloc_at _ _ _ _ rfl]; simpa using e, by rw [World.frozen?_alloc_at _ _ _ _ rfl]⟩⟩
theorem Bx.newAt (w : World) (l : List Value) (t : TypeId) (b : Nat) (hb : w.heap.size = b) : Bx (w.alloc (.cells l.toArray t)) b l := hb ▸ Bx.new w l t
theorem Bx.c {W : World} {b : Nat} {l : List Value} (h : Bx W b l) (i : Nat) {v : Value} (e : l[i]? = some v) : W.cell? ⟨b, i, none⟩ = some v := (h.2 i v e).1
theorem Bx.f {W : World} {b : Nat} {l : List Value} (h : Bx W b l) (i : Nat) {v : Value} (e : l[i]? = some v) : W.frozen? ⟨b, i, none⟩ = false := (h.2 i v e).2
def okH (a : Hf) : Bool := decide (dyA a.m a.k a.d a.n ∧ okAt a.s a.z ∧ 0 ≤ a.v ∧ a.v ≤ 7200)
def okF (f : Ft) : Bool := f.h && decide (-50400 ≤ f.off) && decide (f.off ≤ 50400) && okH f.A && okH f.B && far f.A.m f.B.m
theorem half_run (a : Hf) (V E1 E2 : Int) (TT : ByteArray) (h1 : E1 = 0 ∨ E1 = 1) (h2 : E2 = 0 ∨ E2 = 1)
  (DY : Hid (∀ w : World, Cvl.Lens w → Calls Tryz.prog 221 #[vi ki 2000, vi ki a.m, .agg #[vi ki a.k, vi ki a.d, vi ki a.n]] w fun e w' => e = zr (.tuple #[vi ki V, vi ki E1]) ∧ Below w.heap.size w w'))
  (TA : Hid (∀ w : World, Clk.Tab w → Calls Tryz.prog 222 #[.agg #[vi ki a.s, .int .u8 a.z]] w fun e w' => e = zr (.tuple #[.string TT, vi ki E2]) ∧ Below w.heap.size w w'))
  (w : World) (hL0 : Hid (Cvl.Lens w)) (hT0 : Hid (Clk.Tab w)) :
  Calls Tryz.prog 217 #[.agg #[vi ki a.m, vi ki a.k, vi ki a.d, vi ki a.n, vi ki a.s, .int .u8 a.z, vi ki a.v, .string a.t]] w fun e w' => e = zr (.bool (decide (E1 = 0 ∧ E2 = 0 ∧ 0 ≤ a.v ∧ a.v ≤ 7200))) ∧ Below w.heap.size w w' := by
 have HB : Hid (Below w.heap.size w (w.alloc (.cells #[vi ki a.m, vi ki a.k, vi ki a.d, vi ki a.n, vi ki a.s, .int .u8 a.z, vi ki a.v, .string a.t] 40))) := (Below.refl _ _).alloc (Nat.le_refl _) _
 have X0 : Hid (Bx (w.alloc (.cells #[vi ki a.m, vi ki a.k, vi ki a.d, vi ki a.n, vi ki a.s, .int .u8 a.z, vi ki a.v, .string a.t] 40)) w.heap.size (hL a)) := Bx.new w (hL a) _
 have L1 : Hid (Cvl.Lens (w.alloc (.cells #[vi ki a.m, vi ki a.k, vi ki a.d, vi ki a.n, vi ki a.s, .int .u8 a.z, vi ki a.v, .string a.t] 40))) := Lens_below hL0.out HB.out (Lens_lt hL0.out)
 have T1 : Hid (Clk.Tab (w.alloc (.cells #[vi ki a.m, vi ki a.k, vi ki a.d, vi ki a.n, vi ki a.s, .int .u8 a.z, vi ki a.v, .string a.t] 40))) := hT0.out.below HB.out
 go_enter Tryz.func217, Tryz.ntmps217
 go_wp2_with fail
 refine (DY.out _ L1.out).mono ?_
 rintro e w1 ⟨rfl, hb⟩
 have X1 : Hid (Bx w1 w.heap.size (hL a)) := X0.out.below hb
 have HB1 : Hid (Below w.heap.size w w1) := HB.out.trans (hb.mono HB.out.size)
 have T2 : Hid (Clk.Tab w1) := T1.out.below hb
 clear hb X0 HB L1 T1
 have c4 : w1.cell? ⟨w.heap.size, 4, none⟩ = some (vi ki a.s) := X1.out.c 4 rfl
 have c5 : w1.cell? ⟨w.heap.size, 5, none⟩ = some (.int .u8 a.z) := X1.out.c 5 rfl
 go_wp2_with fail
 refine (TA.out _ T2.out).mono ?_
 rintro e w2 ⟨rfl, hb⟩
 have c6 : w2.cell? ⟨w.heap.size, 6, none⟩ = some (vi ki a.v) := (X1.out.below hb).c 6 rfl
 have HB2 : Hid (Below w.heap.size w w2) := HB1.out.trans (hb.mono HB1.out.size)
 clear hb X1 HB1 T2 c4 c5
 rcases h1 with rfl | rfl
 ·rcases h2 with rfl | rfl
  ·go_wp2
   all_goals (go_ret; refine ⟨Cvl.ret_bool ?_, HB2.out⟩)
   all_goals (clear DY TA; first | (simp; done) | (simp; omega))
  ·go_wp2
   go_ret
   exact ⟨rfl, HB2.out⟩
 ·go_wp2
  go_ret
  exact ⟨rfl, HB2.out⟩
theorem half_any (a : Hf) (w : World) (hL0 : Cvl.Lens w) (hT0 : Clk.Tab w) :
  Calls Tryz.prog 217 #[.agg #[vi ki a.m, vi ki a.k, vi ki a.d, vi ki a.n, vi ki a.s, .int .u8 a.z, vi ki a.v, .string a.t]] w fun e w' => e = zr (.bool (okH a)) ∧ Below w.heap.size w w' := by
 by_cases h1 : dyA a.m a.k a.d a.n
 ·have DY : Hid (∀ w : World, Cvl.Lens w → Calls Tryz.prog 221 #[vi ki 2000, vi ki a.m, .agg #[vi ki a.k, vi ki a.d, vi ki a.n]] w fun e w' => e = zr (.tuple #[vi ki (dyV 2000 a.m a.k a.d a.n), vi ki 0]) ∧ Below w.heap.size w w') := fun w hw => by
   have R := day_any 2000 a.m a.k a.d a.n w hw
   rw [show dyE 2000 a.m a.k a.d a.n = 0 by unfold dyE; rw [if_pos h1, if_pos (by unfold dyY; omega)]] at R
   exact R
  by_cases h2 : okAt a.s a.z
  ·have R := half_run a _ 0 0 _ (.inl rfl) (.inl rfl) DY (fun w hw => tat_yes a.s a.z h2 w hw) w hL0 hT0
   rw [show okH a = decide ((0 : Int) = 0 ∧ (0 : Int) = 0 ∧ 0 ≤ a.v ∧ a.v ≤ 7200) by unfold okH; simp [h1, h2]]
   exact R
  ·have R := half_run a _ 0 1 _ (.inl rfl) (.inr rfl) DY (fun w hw => tat_no a.s a.z h2 w hw) w hL0 hT0
   rw [show okH a = decide ((0 : Int) = 0 ∧ (1 : Int) = 0 ∧ 0 ≤ a.v ∧ a.v ≤ 7200) by unfold okH; simp [h2]]
   exact R
 ·have DY : Hid (∀ w : World, Cvl.Lens w → Calls Tryz.prog 221 #[vi ki 2000, vi ki a.m, .agg #[vi ki a.k, vi ki a.d, vi ki a.n]] w fun e w' => e = zr (.tuple #[vi ki (dyV 2000 a.m a.k a.d a.n), vi ki 1]) ∧ Below w.heap.size w w') := fun w hw => by
   have R := day_any 2000 a.m a.k a.d a.n w hw
   rw [show dyE 2000 a.m a.k a.d a.n = 1 by unfold dyE; rw [if_neg h1]] at R
   exact R
  have e0 : okH a = false := by unfold okH; simp [h1]
  by_cases h2 : okAt a.s a.z
  ·have R := half_run a _ 1 0 _ (.inr rfl) (.inl rfl) DY (fun w hw => tat_yes a.s a.z h2 w hw) w hL0 hT0
   rw [e0]; simpa using R
  ·have R := half_run a _ 1 1 _ (.inr rfl) (.inr rfl) DY (fun w hw => tat_no a.s a.z h2 w hw) w hL0 hT0
   rw [e0]; simpa using R
theorem okH_of {a : Hf} (h : okH a = true) : dyA a.m a.k a.d a.n ∧ okAt a.s a.z ∧ 0 ≤ a.v ∧ a.v ≤ 7200 := of_decide_eq_true h
theorem can_run (f : Ft) (bA bB c : Bool)
  (IA : Hid (∀ w : World, Cvl.Lens w → Clk.Tab w → Calls Tryz.prog 217 #[.agg #[vi ki f.A.m, vi ki f.A.k, vi ki f.A.d, vi ki f.A.n, vi ki f.A.s, .int .u8 f.A.z, vi ki f.A.v, .string f.A.t]] w fun e w' => e = zr (.bool bA) ∧ Below w.heap.size w w'))
  (IB : Hid (∀ w : World, Cvl.Lens w → Clk.Tab w → Calls Tryz.prog 217 #[.agg #[vi ki f.B.m, vi ki f.B.k, vi ki f.B.d, vi ki f.B.n, vi ki f.B.s, .int .u8 f.B.z, vi ki f.B.v, .string f.B.t]] w fun e w' => e = zr (.bool bB) ∧ Below w.heap.size w w'))
  (AP : Hid (bA = true → bB = true → ∀ w : World, Calls Tryz.prog 218 #[vi ki f.A.m, vi ki f.B.m] w fun e w' => e = zr (.bool c) ∧ w' = w))
  (w : World) (hL0 : Hid (Cvl.Lens w)) (hT0 : Hid (Clk.Tab w)) :
  Calls Tryz.prog 199 #[.agg #[.bool f.h, vi ki f.fr, vi ki f.off, vi ki f.A.m, vi ki f.A.k, vi ki f.A.d, vi ki f.A.n, vi ki f.A.s, .int .u8 f.A.z, vi ki f.A.v, .string f.A.t, vi ki f.B.m, vi ki f.B.k, vi ki f.B.d, vi ki f.B.n, vi ki f.B.s, .int .u8 f.B.z, vi ki f.B.v, .string f.B.t]] w fun e w' => e = zr (.bool (f.h && decide (-50400 ≤ f.off) && decide (f.off ≤ 50400) && bA && bB && c)) ∧ Below w.heap.size w w' := by
 have HB : Hid (Below w.heap.size w (w.alloc (.cells #[.bool f.h, vi ki f.fr, vi ki f.off, vi ki f.A.m, vi ki f.A.k, vi ki f.A.d, vi ki f.A.n, vi ki f.A.s, .int .u8 f.A.z, vi ki f.A.v, .string f.A.t, vi ki f.B.m, vi ki f.B.k, vi ki f.B.d, vi ki f.B.n, vi ki f.B.s, .int .u8 f.B.z, vi ki f.B.v, .string f.B.t] 42))) := (Below.refl _ _).alloc (Nat.le_refl _) _
 have X0 : Hid (Bx (w.alloc (.cells #[.bool f.h, vi ki f.fr, vi ki f.off, vi ki f.A.m, vi ki f.A.k, vi ki f.A.d, vi ki f.A.n, vi ki f.A.s, .int .u8 f.A.z, vi ki f.A.v, .string f.A.t, vi ki f.B.m, vi ki f.B.k, vi ki f.B.d, vi ki f.B.n, vi ki f.B.s, .int .u8 f.B.z, vi ki f.B.v, .string f.B.t] 42)) w.heap.size (fL f)) := Bx.new w (fL f) _
 have L1 : Hid (Cvl.Lens (w.alloc (.cells #[.bool f.h, vi ki f.fr, vi ki f.off, vi ki f.A.m, vi ki f.A.k, vi ki f.A.d, vi ki f.A.n, vi ki f.A.s, .int .u8 f.A.z, vi ki f.A.v, .string f.A.t, vi ki f.B.m, vi ki f.B.k, vi ki f.B.d, vi ki f.B.n, vi ki f.B.s, .int .u8 f.B.z, vi ki f.B.v, .string f.B.t] 42))) := Lens_below hL0.out HB.out (Lens_lt hL0.out)
 have T1 : Hid (Clk.Tab (w.alloc (.cells #[.bool f.h, vi ki f.fr, vi ki f.off, vi ki f.A.m, vi ki f.A.k, vi ki f.A.d, vi ki f.A.n, vi ki f.A.s, .int .u8 f.A.z, vi ki f.A.v, .string f.A.t, vi ki f.B.m, vi ki f.B.k, vi ki f.B.d, vi ki f.B.n, vi ki f.B.s, .int .u8 f.B.z, vi ki f.B.v, .string f.B.t] 42))) := hT0.out.below HB.out
 cases hh : f.h
 ·rw [hh] at HB X0 L1 T1
  go_enter Tryz.func199, Tryz.ntmps199
  go_wp2
  go_ret
  exact ⟨rfl, HB.out⟩
 rw [hh] at HB X0 L1 T1
 by_cases o1 : -50400 ≤ f.off
 case neg =>
  have e1 : decide (-50400 ≤ f.off) = false := decide_eq_false o1
  rw [e1]
  go_enter Tryz.func199, Tryz.ntmps199
  go_wp2
  go_ret
  exact ⟨rfl, HB.out⟩
 by_cases o2 : f.off ≤ 50400
 case neg =>
  have e1 : decide (f.off ≤ 50400) = false := decide_eq_false o2
  rw [e1, decide_eq_true o1]
  go_enter Tryz.func199, Tryz.ntmps199
  go_wp2
  go_ret
  exact ⟨rfl, HB.out⟩
 rw [decide_eq_true o1, decide_eq_true o2]
 go_enter Tryz.func199, Tryz.ntmps199
 go_wp2_with fail
 refine (IA.out _ L1.out T1.out).mono ?_
 rintro e w1 ⟨rfl, hb⟩
 have X1 : Hid (Bx w1 w.heap.size (fL f)) := by have := X0.out.below hb; exact this
 have HB1 : Hid (Below w.heap.size w w1) := HB.out.trans (hb.mono HB.out.size)
 have T2 : Hid (Clk.Tab w1) := T1.out.below hb
 have L2 : Hid (Cvl.Lens w1) := Lens_below hL0.out HB1.out (Lens_lt hL0.out)
 clear hb X0 HB L1 T1 IA
 cases bA
 ·go_wp2
  go_ret
  exact ⟨rfl, HB1.out⟩
 have c11 : w1.cell? ⟨w.heap.size, 11, none⟩ = some (vi ki f.B.m) := X1.out.c 11 rfl
 have c12 : w1.cell? ⟨w.heap.size, 12, none⟩ = some (vi ki f.B.k) := X1.out.c 12 rfl
 have c13 : w1.cell? ⟨w.heap.size, 13, none⟩ = some (vi ki f.B.d) := X1.out.c 13 rfl
 have c14 : w1.cell? ⟨w.heap.size, 14, none⟩ = some (vi ki f.B.n) := X1.out.c 14 rfl
 have c15 : w1.cell? ⟨w.heap.size, 15, none⟩ = some (vi ki f.B.s) := X1.out.c 15 rfl
 have c16 : w1.cell? ⟨w.heap.size, 16, none⟩ = some (.int .u8 f.B.z) := X1.out.c 16 rfl
 have c17 : w1.cell? ⟨w.heap.size, 17, none⟩ = some (vi ki f.B.v) := X1.out.c 17 rfl
 have c18 : w1.cell? ⟨w.heap.size, 18, none⟩ = some (.string f.B.t) := X1.out.c 18 rfl
 go_wp2_with fail
 refine (IB.out _ L2.out T2.out).mono ?_
 rintro e w2 ⟨rfl, hb⟩
 have X2 : Hid (Bx w2 w.heap.size (fL f)) := by have := X1.out.below hb; exact this
 have HB2 : Hid (Below w.heap.size w w2) := HB1.out.trans (hb.mono HB1.out.size)
 clear hb X1 HB1 T2 L2 IB c11 c12 c13 c14 c15 c16 c17 c18
 cases bB
 ·go_wp2
  go_ret
  exact ⟨rfl, HB2.out⟩
 have AP' : Hid (∀ w : World, Calls Tryz.prog 218 #[vi ki f.A.m, vi ki f.B.m] w fun e w' => e = zr (.bool c) ∧ w' = w) := by first | exact AP.out rfl rfl | exact AP.out trivial trivial | exact AP.out trivial rfl | exact AP.out rfl trivial | exact AP.out trivial | exact AP.out rfl | exact AP.out
 clear AP
 have c3 : w2.cell? ⟨w.heap.size, 3, none⟩ = some (vi ki f.A.m) := X2.out.c 3 rfl
 have c11 : w2.cell? ⟨w.heap.size, 11, none⟩ = some (vi ki f.B.m) := X2.out.c 11 rfl
 go_wp2_with fail
 refine (AP'.out _).mono ?_
 rintro e w3 ⟨rfl, rfl⟩
 go_wp2
 all_goals go_ret
 all_goals exact ⟨rfl, HB2.out⟩
theorem can_any (f : Ft) (w : World) (hL0 : Cvl.Lens w) (hT0 : Clk.Tab w) :
  Calls Tryz.prog 199 #[.agg #[.bool f.h, vi ki f.fr, vi ki f.off, vi ki f.A.m, vi ki f.A.k, vi ki f.A.d, vi ki f.A.n, vi ki f.A.s, .int .u8 f.A.z, vi ki f.A.v, .string f.A.t, vi ki f.B.m, vi ki f.B.k, vi ki f.B.d, vi ki f.B.n, vi ki f.B.s, .int .u8 f.B.z, vi ki f.B.v, .string f.B.t]] w fun e w' => e = zr (.bool (okF f)) ∧ Below w.heap.size w w' :=
 can_run f (okH f.A) (okH f.B) (far f.A.m f.B.m) (fun w a b => half_any f.A w a b) (fun w a b => half_any f.B w a b)
  (fun ha hb w => by
   have A := (okH_of ha).1
   have B := (okH_of hb).1
   exact apart_any f.A.m f.B.m A.2.1 A.2.2 B.2.1 B.2.2 w) w hL0 hT0
def cL (f : Ft) (m : Nat) : List Value := [.bool f.h, vi ki f.fr, vi ki f.off, vi ki f.A.m, vi ki f.A.k, vi ki f.A.d, vi ki f.A.n, vi ki f.A.s, .int .u8 f.A.z, vi ki f.A.v, .string f.A.t, vi ki f.B.m, vi ki f.B.k, vi ki f.B.d, vi ki f.B.n, vi ki f.B.s, .int .u8 f.B.z, vi ki f.B.v, .string f.B.t, .map (some m)]
def z4 : List Value := [vi ki 0, vi ki 0, .bool false, .string ⟨#[]⟩]
def trOf (off : Int) (h g : Hf) (y : Int) : Tr := ⟨inst (dyV y h.m h.k h.d h.n) h.s h.z off g.v, off + h.v, h.v != 0, h.t⟩
theorem adr_ne {b i j : Nat} (h : i ≠ j) : (⟨b, i, none⟩ : Addr) ≠ ⟨b, j, none⟩ := fun e => h (by cases e; rfl)
def set4 (W : World) (b : Nat) (i : Nat) (x y z u : Value) : World := (((W.setCell ⟨b, i, none⟩ x).setCell ⟨b, i + 1, none⟩ y).setCell ⟨b, i + 2, none⟩ z).setCell ⟨b, i + 3, none⟩ u
theorem four_set {W : World} {b i : Nat} {a c e d x y z u : Value} (h0 : W.cell? ⟨b, i, none⟩ = some a) (h1 : W.cell? ⟨b, i + 1, none⟩ = some c) (h2 : W.cell? ⟨b, i + 2, none⟩ = some e) (h3 : W.cell? ⟨b, i + 3, none⟩ = some d) :
  (set4 W b i x y z u).cell? ⟨b, i, none⟩ = some x ∧ (set4 W b i x y z u).cell? ⟨b, i + 1, none⟩ = some y ∧ (set4 W b i x y z u).cell? ⟨b, i + 2, none⟩ = some z ∧ (set4 W b i x y z u).cell? ⟨b, i + 3, none⟩ = some u := by
 have n : ∀ {p q : Nat}, p ≠ q → ∀ (V : World) (v : Value), (V.setCell ⟨b, p, none⟩ v).cell? ⟨b, q, none⟩ = V.cell? ⟨b, q, none⟩ := fun h V v => World.cell?_setCell_other _ _ _ _ (adr_ne h)
 unfold set4
 refine ⟨?_, ?_, ?_, ?_⟩
 ·rw [n (by omega), n (by omega), n (by omega)]; exact World.cell?_setCell_same _ _ _ h0
 ·rw [n (by omega), n (by omega)]; exact World.cell?_setCell_same _ _ _ ((n (by omega) _ _).trans h1)
 ·rw [n (by omega)]; exact World.cell?_setCell_same _ _ _ ((n (by omega) _ _).trans ((n (by omega) _ _).trans h2))
 ·exact World.cell?_setCell_same _ _ _ ((n (by omega) _ _).trans ((n (by omega) _ _).trans ((n (by omega) _ _).trans h3)))
theorem below_set4 {w W : World} {b i : Nat} (h : Below w.heap.size w W) (hb : w.heap.size ≤ b) (x y z u : Value) : Below w.heap.size w (set4 W b i x y z u) :=
 (((h.setCell (p := ⟨b, i, none⟩) hb x).setCell (p := ⟨b, i + 1, none⟩) hb y).setCell (p := ⟨b, i + 2, none⟩) hb z).setCell (p := ⟨b, i + 3, none⟩) hb u
theorem to_run (f : Ft) (m : Nat) (h g : Hf) (y V E R : Int)
  (DY : Hid (∀ w : World, Cvl.Lens w → Calls Tryz.prog 221 #[vi ki y, vi ki h.m, .agg #[vi ki h.k, vi ki h.d, vi ki h.n]] w fun e w' => e = zr (.tuple #[vi ki V, vi ki E]) ∧ Below w.heap.size w w'))
  (IN : Hid (∀ w : World, Calls Tryz.prog 233 #[vi ki V, vi ki h.s, .int .u8 h.z, vi ki f.off, vi ki g.v] w fun e w' => e = zr (vi ki R) ∧ w' = w))
  (o1 : -50400 ≤ f.off) (o2 : f.off ≤ 50400) (v1 : 0 ≤ h.v) (v2 : h.v ≤ 7200) (w : World) (hL0 : Hid (Cvl.Lens w)) :
  Calls Tryz.prog 229 #[.agg #[.bool f.h, vi ki f.fr, vi ki f.off, vi ki f.A.m, vi ki f.A.k, vi ki f.A.d, vi ki f.A.n, vi ki f.A.s, .int .u8 f.A.z, vi ki f.A.v, .string f.A.t, vi ki f.B.m, vi ki f.B.k, vi ki f.B.d, vi ki f.B.n, vi ki f.B.s, .int .u8 f.B.z, vi ki f.B.v, .string f.B.t, .map (some m)], .agg #[vi ki h.m, vi ki h.k, vi ki h.d, vi ki h.n, vi ki h.s, .int .u8 h.z, vi ki h.v, .string h.t], .agg #[vi ki g.m, vi ki g.k, vi ki g.d, vi ki g.n, vi ki g.s, .int .u8 g.z, vi ki g.v, .string g.t], vi ki y] w fun e w' => e = zr (.agg #[vi ki R, vi ki (f.off + h.v), .bool (h.v != 0), .string h.t]) ∧ Below w.heap.size w w' := by
 have HB : Hid (Below w.heap.size w ((((w.alloc (.cells #[.bool f.h, vi ki f.fr, vi ki f.off, vi ki f.A.m, vi ki f.A.k, vi ki f.A.d, vi ki f.A.n, vi ki f.A.s, .int .u8 f.A.z, vi ki f.A.v, .string f.A.t, vi ki f.B.m, vi ki f.B.k, vi ki f.B.d, vi ki f.B.n, vi ki f.B.s, .int .u8 f.B.z, vi ki f.B.v, .string f.B.t, .map (some m)] 229)).alloc (.cells #[vi ki h.m, vi ki h.k, vi ki h.d, vi ki h.n, vi ki h.s, .int .u8 h.z, vi ki h.v, .string h.t] 40)).alloc (.cells #[vi ki g.m, vi ki g.k, vi ki g.d, vi ki g.n, vi ki g.s, .int .u8 g.z, vi ki g.v, .string g.t] 40)).alloc (.cells #[vi ki 0, vi ki 0, .bool false, .string ⟨#[]⟩] 23))) := (((((Below.refl _ _).alloc (by simp <;> omega) _).alloc (by simp <;> omega) _).alloc (by simp <;> omega) _).alloc (by simp <;> omega) _)
 have X0 : Hid (Bx ((((w.alloc (.cells #[.bool f.h, vi ki f.fr, vi ki f.off, vi ki f.A.m, vi ki f.A.k, vi ki f.A.d, vi ki f.A.n, vi ki f.A.s, .int .u8 f.A.z, vi ki f.A.v, .string f.A.t, vi ki f.B.m, vi ki f.B.k, vi ki f.B.d, vi ki f.B.n, vi ki f.B.s, .int .u8 f.B.z, vi ki f.B.v, .string f.B.t, .map (some m)] 229)).alloc (.cells #[vi ki h.m, vi ki h.k, vi ki h.d, vi ki h.n, vi ki h.s, .int .u8 h.z, vi ki h.v, .string h.t] 40)).alloc (.cells #[vi ki g.m, vi ki g.k, vi ki g.d, vi ki g.n, vi ki g.s, .int .u8 g.z, vi ki g.v, .string g.t] 40)).alloc (.cells #[vi ki 0, vi ki 0, .bool false, .string ⟨#[]⟩] 23)) (w.heap.size) (cL f m)) := ((((Bx.newAt w (cL f m) _ _ (by simp)).alloc _).alloc _).alloc _)
 have X1 : Hid (Bx ((((w.alloc (.cells #[.bool f.h, vi ki f.fr, vi ki f.off, vi ki f.A.m, vi ki f.A.k, vi ki f.A.d, vi ki f.A.n, vi ki f.A.s, .int .u8 f.A.z, vi ki f.A.v, .string f.A.t, vi ki f.B.m, vi ki f.B.k, vi ki f.B.d, vi ki f.B.n, vi ki f.B.s, .int .u8 f.B.z, vi ki f.B.v, .string f.B.t, .map (some m)] 229)).alloc (.cells #[vi ki h.m, vi ki h.k, vi ki h.d, vi ki h.n, vi ki h.s, .int .u8 h.z, vi ki h.v, .string h.t] 40)).alloc (.cells #[vi ki g.m, vi ki g.k, vi ki g.d, vi ki g.n, vi ki g.s, .int .u8 g.z, vi ki g.v, .string g.t] 40)).alloc (.cells #[vi ki 0, vi ki 0, .bool false, .string ⟨#[]⟩] 23)) (w.heap.size + 1) (hL h)) := (((Bx.newAt (w.alloc (.cells #[.bool f.h, vi ki f.fr, vi ki f.off, vi ki f.A.m, vi ki f.A.k, vi ki f.A.d, vi ki f.A.n, vi ki f.A.s, .int .u8 f.A.z, vi ki f.A.v, .string f.A.t, vi ki f.B.m, vi ki f.B.k, vi ki f.B.d, vi ki f.B.n, vi ki f.B.s, .int .u8 f.B.z, vi ki f.B.v, .string f.B.t, .map (some m)] 229)) (hL h) _ _ (by simp)).alloc _).alloc _)
 have X2 : Hid (Bx ((((w.alloc (.cells #[.bool f.h, vi ki f.fr, vi ki f.off, vi ki f.A.m, vi ki f.A.k, vi ki f.A.d, vi ki f.A.n, vi ki f.A.s, .int .u8 f.A.z, vi ki f.A.v, .string f.A.t, vi ki f.B.m, vi ki f.B.k, vi ki f.B.d, vi ki f.B.n, vi ki f.B.s, .int .u8 f.B.z, vi ki f.B.v, .string f.B.t, .map (some m)] 229)).alloc (.cells #[vi ki h.m, vi ki h.k, vi ki h.d, vi ki h.n, vi ki h.s, .int .u8 h.z, vi ki h.v, .string h.t] 40)).alloc (.cells #[vi ki g.m, vi ki g.k, vi ki g.d, vi ki g.n, vi ki g.s, .int .u8 g.z, vi ki g.v, .string g.t] 40)).alloc (.cells #[vi ki 0, vi ki 0, .bool false, .string ⟨#[]⟩] 23)) (w.heap.size + 2) (hL g)) := ((Bx.newAt ((w.alloc (.cells #[.bool f.h, vi ki f.fr, vi ki f.off, vi ki f.A.m, vi ki f.A.k, vi ki f.A.d, vi ki f.A.n, vi ki f.A.s, .int .u8 f.A.z, vi ki f.A.v, .string f.A.t, vi ki f.B.m, vi ki f.B.k, vi ki f.B.d, vi ki f.B.n, vi ki f.B.s, .int .u8 f.B.z, vi ki f.B.v, .string f.B.t, .map (some m)] 229)).alloc (.cells #[vi ki h.m, vi ki h.k, vi ki h.d, vi ki h.n, vi ki h.s, .int .u8 h.z, vi ki h.v, .string h.t] 40)) (hL g) _ _ (by simp)).alloc _)
 have X3 : Hid (Bx ((((w.alloc (.cells #[.bool f.h, vi ki f.fr, vi ki f.off, vi ki f.A.m, vi ki f.A.k, vi ki f.A.d, vi ki f.A.n, vi ki f.A.s, .int .u8 f.A.z, vi ki f.A.v, .string f.A.t, vi ki f.B.m, vi ki f.B.k, vi ki f.B.d, vi ki f.B.n, vi ki f.B.s, .int .u8 f.B.z, vi ki f.B.v, .string f.B.t, .map (some m)] 229)).alloc (.cells #[vi ki h.m, vi ki h.k, vi ki h.d, vi ki h.n, vi ki h.s, .int .u8 h.z, vi ki h.v, .string h.t] 40)).alloc (.cells #[vi ki g.m, vi ki g.k, vi ki g.d, vi ki g.n, vi ki g.s, .int .u8 g.z, vi ki g.v, .string g.t] 40)).alloc (.cells #[vi ki 0, vi ki 0, .bool false, .string ⟨#[]⟩] 23)) (w.heap.size + 3) (z4)) := (Bx.newAt (((w.alloc (.cells #[.bool f.h, vi ki f.fr, vi ki f.off, vi ki f.A.m, vi ki f.A.k, vi ki f.A.d, vi ki f.A.n, vi ki f.A.s, .int .u8 f.A.z, vi ki f.A.v, .string f.A.t, vi ki f.B.m, vi ki f.B.k, vi ki f.B.d, vi ki f.B.n, vi ki f.B.s, .int .u8 f.B.z, vi ki f.B.v, .string f.B.t, .map (some m)] 229)).alloc (.cells #[vi ki h.m, vi ki h.k, vi ki h.d, vi ki h.n, vi ki h.s, .int .u8 h.z, vi ki h.v, .string h.t] 40)).alloc (.cells #[vi ki g.m, vi ki g.k, vi ki g.d, vi ki g.n, vi ki g.s, .int .u8 g.z, vi ki g.v, .string g.t] 40)) (z4) _ _ (by simp))
 have L1 : Hid (Cvl.Lens ((((w.alloc (.cells #[.bool f.h, vi ki f.fr, vi ki f.off, vi ki f.A.m, vi ki f.A.k, vi ki f.A.d, vi ki f.A.n, vi ki f.A.s, .int .u8 f.A.z, vi ki f.A.v, .string f.A.t, vi ki f.B.m, vi ki f.B.k, vi ki f.B.d, vi ki f.B.n, vi ki f.B.s, .int .u8 f.B.z, vi ki f.B.v, .string f.B.t, .map (some m)] 229)).alloc (.cells #[vi ki h.m, vi ki h.k, vi ki h.d, vi ki h.n, vi ki h.s, .int .u8 h.z, vi ki h.v, .string h.t] 40)).alloc (.cells #[vi ki g.m, vi ki g.k, vi ki g.d, vi ki g.n, vi ki g.s, .int .u8 g.z, vi ki g.v, .string g.t] 40)).alloc (.cells #[vi ki 0, vi ki 0, .bool false, .string ⟨#[]⟩] 23))) := Lens_below hL0.out HB.out (Lens_lt hL0.out)
 go_enter Tryz.func229, Tryz.ntmps229
 go_wp2_with fail
 refine (DY.out _ L1.out).mono ?_
 rintro e w1 ⟨rfl, hb⟩
 have HB1 : Hid (Below w.heap.size w w1) := HB.out.trans (hb.mono HB.out.size)
 have Y0 := X0.out.below hb
 have Y1 := X1.out.below hb
 have Y2 := X2.out.below hb
 have Y3 := X3.out.below hb
 clear hb HB L1 X0 X1 X2 X3
 have c1 : w1.cell? ⟨w.heap.size + 1, 4, none⟩ = some (vi ki h.s) := Y1.c 4 rfl
 have c2 : w1.cell? ⟨w.heap.size + 1, 5, none⟩ = some (.int .u8 h.z) := Y1.c 5 rfl
 have c3 : w1.cell? ⟨w.heap.size, 2, none⟩ = some (vi ki f.off) := Y0.c 2 rfl
 have c4 : w1.cell? ⟨w.heap.size + 2, 6, none⟩ = some (vi ki g.v) := Y2.c 6 rfl
 have c5 : w1.cell? ⟨w.heap.size + 1, 6, none⟩ = some (vi ki h.v) := Y1.c 6 rfl
 have c6 : w1.cell? ⟨w.heap.size + 1, 7, none⟩ = some (.string h.t) := Y1.c 7 rfl
 have d0 := Y3.c 0 rfl
 have d1 := Y3.c 1 rfl
 have d2 := Y3.c 2 rfl
 have d3 := Y3.c 3 rfl
 have f0 := Y3.f 0 rfl
 have f1 := Y3.f 1 rfl
 have f2 := Y3.f 2 rfl
 have f3 := Y3.f 3 rfl
 clear Y0 Y1 Y2 Y3
 go_wp2_with fail
 refine (IN.out _).mono ?_
 rintro e w2 ⟨rfl, rfl⟩
 obtain ⟨y1, y2, y3, y4⟩ := four_set (x := vi ki R) (y := vi ki (f.off + h.v)) (z := .bool (h.v != 0)) (u := .string h.t) d0 d1 d2 d3
 unfold set4 at y1 y2 y3 y4
 simp only [Nat.zero_add] at y1 y2 y3 y4
 go_wp2
 refine bodyPost_ret (v := .agg #[vi ki R, vi ki (f.off + h.v), .bool (h.v != 0), .string h.t]) (by simp [results, Tryz.results229, go_sem, y1, y2, y3, y4]) rfl ⟨rfl, ?_⟩
 exact below_set4 (i := 0) HB1.out (by omega) _ _ _ _
theorem dyV_bd {y m k d n : Int} (h : dyA m k d n) (hy : dyY y) : -1000000000 ≤ dyV y m k d n ∧ dyV y m k d n ≤ 1000000000 := by
 have b := fst1_bd hy h.2.1 h.2.2
 have l := Cv.len_bd y m
 unfold dyV
 rw [if_pos h, if_pos hy]
 unfold dayN
 have b1 := bk_bd (fst1 y m + Cv.len y m - 1) d
 have b2 := bk_bd (fst1 y m + n - 1) d
 have b3 := bk_bd (fst1 y m + n - 1 + 7 - 1) d
 have hn : -1 ≤ n ∧ n ≤ 31 := by rcases h.1 with a | a | a <;> omega
 split
 ·omega
 ·split
  ·omega
  ·split <;> omega
theorem to_any (f : Ft) (m : Nat) (h g : Hf) (y : Int) (hh : okH h = true) (hg : okH g = true) (o1 : -50400 ≤ f.off) (o2 : f.off ≤ 50400) (hy : dyY y) (w : World) (hL0 : Cvl.Lens w) :
  Calls Tryz.prog 229 #[.agg #[.bool f.h, vi ki f.fr, vi ki f.off, vi ki f.A.m, vi ki f.A.k, vi ki f.A.d, vi ki f.A.n, vi ki f.A.s, .int .u8 f.A.z, vi ki f.A.v, .string f.A.t, vi ki f.B.m, vi ki f.B.k, vi ki f.B.d, vi ki f.B.n, vi ki f.B.s, .int .u8 f.B.z, vi ki f.B.v, .string f.B.t, .map (some m)], .agg #[vi ki h.m, vi ki h.k, vi ki h.d, vi ki h.n, vi ki h.s, .int .u8 h.z, vi ki h.v, .string h.t], .agg #[vi ki g.m, vi ki g.k, vi ki g.d, vi ki g.n, vi ki g.s, .int .u8 g.z, vi ki g.v, .string g.t], vi ki y] w fun e w' => e = zr (.agg #[vi ki (trOf f.off h g y).t, vi ki (trOf f.off h g y).o, .bool (trOf f.off h g y).d, .string (trOf f.off h g y).a]) ∧ Below w.heap.size w w' := by
 obtain ⟨a1, a2, a3, a4⟩ := okH_of hh
 obtain ⟨b1, b2, b3, b4⟩ := okH_of hg
 obtain ⟨v1, v2⟩ := dyV_bd a1 hy
 obtain ⟨s1, s2, s3⟩ := a2
 exact to_run f m h g y _ _ _ (fun w hw => day_any y h.m h.k h.d h.n w hw) (fun w => inst_any _ h.s h.z f.off g.v v1 v2 s1 s2 o1 o2 b3 b4 w) o1 o2 a3 a4 w hL0
end Go.Proofs.YtklehbmghjcmaaaGreatDoor.Fn
