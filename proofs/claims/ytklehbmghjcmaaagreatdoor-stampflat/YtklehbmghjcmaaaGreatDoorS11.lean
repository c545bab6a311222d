import Derived.Test.YtklehbmghjcmaaaGreatDoorSz
import Derived.Test.YtklehbmghjcmaaaGreatDoorS10
import Derived.Laws.AppendOwn
import Derived.Test.YtklehbmghjcmaaaGreatDoorRows
import Derived.WalkKit
import Derived.WalkSpells
import Derived.WalkLawsBesides
import Derived.Shelf.Small.Wraps
import Derived.Shelf.Strconv.Itoa0
import Derived.Shelf.Strconv.Itoa1
import Derived.Shelf.LaysM
import Derived.Shelf.Strconv.Itoa2
import Derived.Shelf.Strconv.Itoa3
import Derived.Shelf.Strconv.Itoa4
import Derived.Shelf.Strings.Prefix
import Derived.Shelf.Bits.Mul64
import Derived.Test.YtklehbmghjcmaaaGreatDoorProg
import Derived.Lib.ItoaNum
import Derived.Lib.AppendIntMem
import Derived.Lib.ItoaLen
open Go.Value renaming int → vi
open Go.IntKind renaming i64 → ki
open List renaming setIfInBounds_toArray → zb, set_cons_zero → zc, set_cons_succ → zd
open Go.Act renaming put → za
open Go.Ending renaming returned → zr
set_option maxRecDepth 100000
set_option maxHeartbeats 16000000
set_option linter.unusedVariables false
namespace Go.Proofs.YtklehbmghjcmaaaGreatDoor
open Go.RowKit Sr
def nmB : ByteArray := ⟨#[69, 117, 114, 111, 112, 101, 47, 66, 101, 114, 108, 105, 110]⟩
def fB : TrR := ⟨0, 3600, false, ⟨#[67, 69, 84]⟩⟩
def LB : List TrR := [⟨1711846800, 7200, true, ⟨#[67, 69, 83, 84]⟩⟩, ⟨1729990800, 3600, false, ⟨#[67, 69, 84]⟩⟩]
def zeT : List Value := tbF ⟨#[]⟩ ⟨0, 0, false, ⟨#[]⟩⟩ (.slice none 0 0) zeF
theorem one_b (ao : Option Addr) (n c : Nat) : (tbF nmB fB (.slice ao n c) zeF).toArray.all (·.oneCell') = true := by
 simp [tbF, trC, zeF, nmB, fB, Value.oneCell']
theorem TrAt.offB {W : World} {g o n c b i : Nat} {v : Value} {L : List TrR} (h : TrAt W (.slice (some ⟨g, o, none⟩) n c) L) (hg : g ≠ b) : TrAt (W.setCell ⟨b, i, none⟩ v) (.slice (some ⟨g, o, none⟩) n c) L := by
 obtain ⟨h1, h2, h3⟩ := h
 refine ⟨h1, h2, h3.imp_right ?_⟩
 rintro ⟨g', o', c', e, hg', hc⟩
 have e0 := e
 simp only [Value.slice.injEq, Option.some.injEq, Addr.mk.injEq] at e
 obtain ⟨⟨rfl, rfl, _⟩, _, rfl⟩ := e
 exact ⟨_, _, _, e0, by simpa using hg', fun j u hj => (World.cell?_setCell_other _ _ _ _ (fun q => hg (by cases q; rfl))).trans (hc j u hj)⟩
theorem results_c1 {P : Program} {fn : Func} {p : Tmp} {ty : TypeId} (h : fn.results = #[.cell p ty]) (tmps : Array Value) (w : World) (a : Addr) (v : Value) (hp : tmps[p]?.getD undef = .pointer (some a)) (hl : (loadVar ty a).run P w = .ok v w) :
  (results fn tmps).run P w = .ok v w := by
 simp [results, h, hp, asAddr, hl]
theorem infoT9 : (Tryz.prog.info? 23).map (fun i => (i.zero, i.size, i.bytes)) = some (some (.agg #[vi ki 0, vi ki 0, .bool false, .string ⟨#[]⟩]), 4, 40) := by kernel_rfl
theorem cells_new9 (w : World) (l : List Value) (t : TypeId) : ∀ j u, l[j]? = some u → (w.alloc (.cells l.toArray t)).cell? ((⟨w.heap.size, 0, none⟩ : Addr).add j) = some u := fun j u hu => by
 have := (Bx.new w l t).c j hu
 unfold Addr.add
 split
 ·rename_i h; subst h; exact this
 ·simpa using this
theorem OkB.okS (sv : Value) (L : List TrR) : OkS (bkS sv L) (fun W => TrAt W sv L) := by
 refine ⟨fun W W' h hs hk => ?_, fun W h k hk => ?_, fun W h => h⟩
 ·obtain ⟨h1, h2, h3⟩ := h
  refine ⟨h1, h2, h3.imp_right ?_⟩
  rintro ⟨g, o, c, e, hg, hc⟩
  refine ⟨g, o, c, e, Nat.lt_of_lt_of_le hg hs, fun j u hj => ?_⟩
  cases L with
  | nil => simp [trCs] at hj
  | cons x l => exact (World.cell?_of_block (w := W) (hk g (by subst e; simp [bkS]))).trans (hc j u hj)
 ·cases L with
  | nil => simp [bkS] at hk
  | cons x l =>
   obtain ⟨_, _, h3⟩ := h
   rcases h3 with h3 | ⟨g, o, c, e, hg, hc⟩
   ·cases h3
   ·subst e; simp [bkS] at hk; omega
theorem berlin_any (w : World) : Calls Tryz.prog 42 #[] w fun e w' => ∃ ao c, e = zr (.agg (tbF nmB fB (.slice ao 2 c) zeF).toArray) ∧ 2 ≤ c ∧ TrAt w' (.slice ao 2 c) LB ∧ Below w.heap.size w w' := by
 have X0 : Hid (Bx ((w.alloc (.cells zeT.toArray 44)).alloc (.cells zeT.toArray 44)) w.heap.size zeT) := (Bx.new w zeT _).alloc _
 have X1 : Hid (Bx ((w.alloc (.cells zeT.toArray 44)).alloc (.cells zeT.toArray 44)) (w.heap.size + 1) zeT) := Bx.newAt _ zeT _ _ (by simp)
 have B1 : Hid (Below w.heap.size w ((w.alloc (.cells zeT.toArray 44)).alloc (.cells zeT.toArray 44))) := ((Below.refl _ _).alloc (Nat.le_refl _) _).alloc (by simp) _
 go_enter Tryz.func42, Tryz.ntmps42
 go_upto_region 2 with (refine wpList_store_mid rfl 44 _ _ rfl (w.heap.size + 1) 0 (tbF nmB fB (.slice none 0 0) zeF).toArray rfl rfl X1.out.there (by kernel_rfl) (one_b _ _ _) ?_; refine gen_list (fun V => Bx V w.heap.size zeT ∧ Bx V (w.heap.size + 1) (tbF nmB fB (.slice none 0 0) zeF) ∧ Below w.heap.size w V) ⟨X0.out.setOther (by omega) _, X1.out.setAll _ rfl, below_setCells (by omega) _ _ _ B1.out⟩ ?_; clear X0 X1 B1; rintro V ⟨X0', X1', B1'⟩; have X0 : Hid (Bx V w.heap.size zeT) := X0'; have X1 : Hid (Bx V (w.heap.size + 1) (tbF nmB fB (.slice none 0 0) zeF)) := X1'; have B1 : Hid (Below w.heap.size w V) := B1'; clear X0' X1' B1')
 obtain ⟨i1, hi1, hy0, hy1, hy2⟩ := info_parts infoT9
 have c5 := X1.out.c 5 rfl
 have hbs := B1.out.size
 have hl1 := X1.out.1
 go_upto_region 3 with (at_builtin; refine wpList_append_own _ rfl _ _ 24 rfl (V.heap.size + 1) 23 i1 (.agg #[vi ki 0, vi ki 0, .bool false, .string ⟨#[]⟩]) 4 40 Tryz.underlying24 hi1 hy0 hy1 hy2 rfl (by decide) (.slice none 0 0) 0 [] rfl (World.ownsRow_nil _ _ _ _) ⟨V.heap.size, 0, none⟩ 2 2 (trCs LB) rfl rfl (cells_new9 V (trCs LB) 23) (trCs_one LB) (by unfold maxLen; omega) (by omega) (by simp) ?_; intro v' w9 hown' hgrow' _; obtain ⟨g', cap', hv'⟩ := ownsRow_succ hown'; subst hv'; have hb9 : Below V.heap.size V w9 := ⟨hgrow'.os, hgrow'.tape, hgrow'.output, Nat.le_trans (by simp) hgrow'.size, fun k hk => (hgrow'.block k (by simp; omega) (by simp [Value.ownBlock])).trans (Below.heap_alloc _ _ _ hk)⟩; have X9 := X1.out.below hb9; have c9 := X9.c 5 rfl; have z9 := X9.f 5 (v := .slice none 0 0) rfl)
 have hg9 : V.heap.size + 1 ≤ g' := by
  rcases hown'.2 with ⟨e, _⟩ | ⟨g, cap, cur, e, hb, _⟩
  ·cases e
  ·cases e; exact hb
 have hcap : 2 ≤ cap' := by
  rcases hown'.2 with ⟨e, _⟩ | ⟨g, cap, cur, e, hb, hh, h1, _⟩
  ·cases e
  ·cases e; exact h1
 have HTR : TrAt w9 (.slice (some ⟨g', 0, none⟩) 2 cap') LB := TrAt.of_own (L := LB) hown'
 refine gen_code (fun U => Bx U w.heap.size zeT ∧ Bx U (w.heap.size + 1) (tbF nmB fB (.slice (some ⟨g', 0, none⟩) 2 cap') zeF) ∧ TrAt U (.slice (some ⟨g', 0, none⟩) 2 cap') LB ∧ Below w.heap.size w U) ⟨bx_turns (X0.out.below hb9) (Turns.setCell (M := [w.heap.size + 1]) _ _ _ (by simp)) (by simp), bx_set1 X9 5 (.slice (some ⟨g', 0, none⟩) 2 cap') (by rw [tbF_len rfl]; decide), HTR.offB (by omega), (B1.out.trans (hb9.mono hbs)).setCell (p := ⟨w.heap.size + 1, 5, none⟩) (by simp) _⟩ ?_
 clear HTR X9 c9 z9 hb9 hgrow' hown' c5 X0 X1 B1
 rintro U ⟨X0', X1', HT', B1'⟩
 have X0 : Hid (Bx U w.heap.size zeT) := X0'
 have X1 : Hid (Bx U (w.heap.size + 1) (tbF nmB fB (.slice (some ⟨g', 0, none⟩) 2 cap') zeF)) := X1'
 have B1 : Hid (Below w.heap.size w U ∧ TrAt U (.slice (some ⟨g', 0, none⟩) 2 cap') LB) := ⟨B1', HT'⟩
 clear X0' X1' HT' B1'
 go_wp2_with (first | (refine wpList_load_mid rfl 44 _ rfl (w.heap.size + 1) 0 rfl (tbF nmB fB (.slice (some ⟨g', 0, none⟩) 2 cap') zeF) _ X1.out.all Tryz.underlying44 rfl (by kernel_rfl) ?_) | (refine wpList_store_mid rfl 44 _ _ rfl w.heap.size 0 (tbF nmB fB (.slice (some ⟨g', 0, none⟩) 2 cap') zeF).toArray rfl rfl X0.out.there (by kernel_rfl) (one_b _ _ _) ?_; refine gen_list (fun Z => Bx Z w.heap.size (tbF nmB fB (.slice (some ⟨g', 0, none⟩) 2 cap') zeF) ∧ TrAt Z (.slice (some ⟨g', 0, none⟩) 2 cap') LB ∧ Below w.heap.size w Z) ⟨X0.out.setAll _ rfl, ?_, below_setCells (Nat.le_refl _) _ _ _ B1.out.1⟩ ?_) | fail)
 ·exact ((OkB.okS _ _).keep _ _ B1.out.2 (by rw [setCells_size]; exact Nat.le_refl _) (fun k hk => by simp [bkS, LB] at hk; subst hk; exact (turns_setCells _ _ _ _).block _ (by have := B1.out.2; obtain ⟨_, _, h3⟩ := this; rcases h3 with h3 | ⟨g, o, c, e, hg, _⟩; cases h3; cases e; exact hg) (by simp; omega)))
 ·rintro Z XZ TZ BZ
  go_wp2_with fail
  exact bodyPost_ret (v := .agg (tbF nmB fB (.slice (some ⟨g', 0, none⟩) 2 cap') zeF).toArray) (results_c1 rfl _ _ _ _ rfl (run_loadVar_mid _ _ _ _ _ _ XZ.all Tryz.underlying44 rfl (by kernel_rfl))) rfl ⟨_, _, rfl, hcap, TZ, BZ⟩
end Go.Proofs.YtklehbmghjcmaaaGreatDoor
namespace Go.Proofs.YtklehbmghjcmaaaGreatDoor.Clk
open Go.RowKit
theorem ret_bool {a b : Bool} (h : a = b) : Ending.returned (.bool a) = zr (.bool b) := by rw [h]
def mkOk (h m s us : Int) : Prop := 0 ≤ h ∧ h ≤ 24 ∧ 0 ≤ m ∧ m ≤ 59 ∧ 0 ≤ s ∧ s ≤ 59 ∧ 0 ≤ us ∧ us ≤ 999999 ∧ h * 3600000000 + m * 60000000 + s * 1000000 + us ≤ 86400000000
instance (h m s us : Int) : Decidable (mkOk h m s us) := by unfold mkOk; infer_instance
def mkV (h m s us : Int) : Int := if mkOk h m s us then h * 3600000000 + m * 60000000 + s * 1000000 + us else 0
def mkE (h m s us : Int) : Int := if mkOk h m s us then 0 else 10
theorem parts_out (t : Int) (h : t < 0 ∨ 86400000000 < t) (w : World) :
  Calls Tryz.prog 226 #[vi ki t] w fun e w' => e = zr (.tuple #[vi ki 0, vi ki 0, vi ki 0, vi ki 0, vi ki 10]) ∧ w' = w := by
 rcases h with h | h
 ·go_enter Tryz.func226, Tryz.ntmps226
  go_wp2
  exact bodyPost_ret (v := .tuple #[vi ki 0, vi ki 0, vi ki 0, vi ki 0, vi ki 10]) (by simp [results, Tryz.results226, go_sem]) rfl ⟨rfl, rfl⟩
 ·have h2 : ¬ t < 0 := by omega
  go_enter Tryz.func226, Tryz.ntmps226
  go_wp2
  exact bodyPost_ret (v := .tuple #[vi ki 0, vi ki 0, vi ki 0, vi ki 0, vi ki 10]) (by simp [results, Tryz.results226, go_sem]) rfl ⟨rfl, rfl⟩
theorem parts_in (t H M S U a b : Int) (h1 : 0 ≤ t) (h2 : t ≤ 86400000000) (e1 : t.tdiv 3600000000 = H) (e2 : t.tdiv 60000000 = a) (e3 : a.tmod 60 = M) (e4 : t.tdiv 1000000 = b) (e5 : b.tmod 60 = S) (e6 : t.tmod 1000000 = U)
  (k1 : 0 ≤ H) (k2 : H ≤ 24) (k3 : 0 ≤ a) (k4 : a ≤ 1440) (k5 : 0 ≤ b) (k6 : b ≤ 86400) (w : World) :
  Calls Tryz.prog 226 #[vi ki t] w fun e w' => e = zr (.tuple #[vi ki H, vi ki M, vi ki S, vi ki U, vi ki 0]) ∧ w' = w := by
 have h3 : ¬ t < 0 := by omega
 have h4 : ¬ 86400000000 < t := by omega
 go_enter Tryz.func226, Tryz.ntmps226
 go_wp2
 exact bodyPost_ret (v := .tuple #[vi ki H, vi ki M, vi ki S, vi ki U, vi ki 0]) (by simp [results, Tryz.results226, go_sem]) rfl ⟨rfl, rfl⟩
def isT (t : Int) : Prop := 0 ≤ t ∧ t ≤ 86400000000
instance (t : Int) : Decidable (isT t) := by unfold isT; infer_instance
def tm (x : Int) (t : Int) : Int := if isT t then x else 0
def tmE (t : Int) : Int := if isT t then 0 else 10
theorem parts_any (t : Int) (w : World) :
  Calls Tryz.prog 226 #[vi ki t] w fun e w' => e = zr (.tuple #[vi ki (tm (t / 3600000000) t), vi ki (tm (t / 60000000 % 60) t), vi ki (tm (t / 1000000 % 60) t), vi ki (tm (t % 1000000) t), vi ki (tmE t)]) ∧ w' = w := by
 unfold tm tmE
 by_cases h : isT t
 ·simp only [if_pos h]
  obtain ⟨h1, h2⟩ := h
  have a1 : t.tdiv 60000000 = t / 60000000 := Int.tdiv_eq_ediv_of_nonneg h1
  have b1 : t.tdiv 1000000 = t / 1000000 := Int.tdiv_eq_ediv_of_nonneg h1
  exact parts_in t _ _ _ _ _ _ h1 h2 (Int.tdiv_eq_ediv_of_nonneg h1) a1 (Int.tmod_eq_emod_of_nonneg (by omega)) b1 (Int.tmod_eq_emod_of_nonneg (by omega)) (Int.tmod_eq_emod_of_nonneg h1) (by omega) (by omega) (by omega) (by omega) (by omega) (by omega) w
 ·simp only [if_neg h]
  exact parts_out t (by unfold isT at h; omega) w
end Go.Proofs.YtklehbmghjcmaaaGreatDoor.Clk
namespace Go.Proofs
open Go.Shelf
def Tryz.lays103_ren : Go.Shelf.Ren := ⟨fun | 103 => 232 | 210 => 238 | 206 => 244 | n => n, fun | 9 => 9 | 4 => 4 | 24 => 269 | 3 => 3 | n => n, fun | n => n⟩
theorem Tryz.lays103 : Go.Proofs.Lays.n103 Tryz.prog Tryz.lays103_ren := {
 mixed := by kernel_rfl
 f103 := Tryz.func232.trans (congrArg some (by kernel_rfl))
 f206 := Tryz.func244.trans (congrArg some (by kernel_rfl))
 f210 := Tryz.func238.trans (congrArg some (by kernel_rfl))
 t3 := Tryz.underlying3
 a3 := Tryz.isAgg3
 z3 := Tryz.sizeOf3
 v3 := Tryz.zeroValue3
 t4 := Tryz.underlying4
 a4 := Tryz.isAgg4
 z4 := Tryz.sizeOf4
 v4 := Tryz.zeroValue4
 t9 := Tryz.underlying9
 a9 := Tryz.isAgg9
 z9 := Tryz.sizeOf9
 v9 := Tryz.zeroValue9
 t24 := Tryz.underlying269
 a24 := Tryz.isAgg269
 z24 := Tryz.sizeOf269
 v24 := Tryz.zeroValue269 }
open Go.RowKit in
theorem Tryz.strings_CutPrefix (s p : ByteArray) (w : World) :
  Calls Tryz.prog 232 #[.string s, .string p] w fun e w' => e = zr (.tuple #[.string ⟨(Lib.trimPrefix s.data.toList p.data.toList).toArray⟩, .bool (Lib.hasPrefix s.data.toList p.data.toList)]) ∧ w' = w := Any.strings_CutPrefix Tryz.lays103 s p w
def Tryz.laysM173_ren : Go.Shelf.Ren := ⟨fun | 173 => 227 | 246 => 231 | 283 => 234 | 284 => 235 | 285 => 236 | 286 => 237 | 129 => 240 | 317 => 239 | 318 => 241 | 319 => 242 | 320 => 243 | 337 => 245 | 338 => 246 | n => n, fun | 2 => 2 | 3 => 3 | 9 => 9 | 4 => 4 | 171 => 272 | 0 => 0 | 53 => 203 | 37 => 219 | 5 => 5 | 173 => 275 | 212 => 279 | 51 => 280 | 20 => 20 | 213 => 281 | 46 => 204 | 232 => 284 | 233 => 285 | n => n, fun | 17 => 2 | 18 => 3 | 19 => 4 | n => n⟩
theorem Tryz.laysM173 : Go.Proofs.LaysM.n173 Tryz.prog Tryz.laysM173_ren := {
 mixed := by kernel_rfl
 f129 := Tryz.func240.trans (congrArg some (by kernel_rfl))
 f173 := Tryz.func227.trans (congrArg some (by kernel_rfl))
 f246 := Tryz.func231.trans (congrArg some (by kernel_rfl))
 f283 := Tryz.func234.trans (congrArg some (by kernel_rfl))
 f284 := Tryz.func235.trans (congrArg some (by kernel_rfl))
 f285 := Tryz.func236.trans (congrArg some (by kernel_rfl))
 f286 := Tryz.func237.trans (congrArg some (by kernel_rfl))
 f317 := Tryz.func239.trans (congrArg some (by kernel_rfl))
 f318 := Tryz.func241.trans (congrArg some (by kernel_rfl))
 f319 := Tryz.func242.trans (congrArg some (by kernel_rfl))
 f320 := Tryz.func243.trans (congrArg some (by kernel_rfl))
 f337 := Tryz.func245.trans (congrArg some (by kernel_rfl))
 f338 := Tryz.func246.trans (congrArg some (by kernel_rfl))
 t0 := Tryz.underlying0
 a0 := Tryz.isAgg0
 z0 := Tryz.sizeOf0
 v0 := Tryz.zeroValue0
 t2 := Tryz.underlying2
 a2 := Tryz.isAgg2
 z2 := Tryz.sizeOf2
 v2 := Tryz.zeroValue2
 t3 := Tryz.underlying3
 a3 := Tryz.isAgg3
 z3 := Tryz.sizeOf3
 v3 := Tryz.zeroValue3
 t4 := Tryz.underlying4
 a4 := Tryz.isAgg4
 z4 := Tryz.sizeOf4
 v4 := Tryz.zeroValue4
 t5 := Tryz.underlying5
 a5 := Tryz.isAgg5
 z5 := Tryz.sizeOf5
 v5 := Tryz.zeroValue5
 t9 := Tryz.underlying9
 a9 := Tryz.isAgg9
 z9 := Tryz.sizeOf9
 v9 := Tryz.zeroValue9
 t20 := Tryz.underlying20
 a20 := Tryz.isAgg20
 z20 := Tryz.sizeOf20
 v20 := Tryz.zeroValue20
 t37 := Tryz.underlying219
 a37 := Tryz.isAgg219
 z37 := Tryz.sizeOf219
 v37 := Tryz.zeroValue219
 t46 := Tryz.underlying204
 a46 := Tryz.isAgg204
 z46 := Tryz.sizeOf204
 v46 := Tryz.zeroValue204
 t51 := Tryz.underlying280
 a51 := Tryz.isAgg280
 z51 := Tryz.sizeOf280
 v51 := Tryz.zeroValue280
 t53 := Tryz.underlying203
 a53 := Tryz.isAgg203
 z53 := Tryz.sizeOf203
 v53 := Tryz.zeroValue203
 t171 := Tryz.underlying272
 a171 := Tryz.isAgg272
 z171 := Tryz.sizeOf272
 v171 := Tryz.zeroValue272
 t173 := Tryz.underlying275
 a173 := Tryz.isAgg275
 z173 := Tryz.sizeOf275
 v173 := Tryz.zeroValue275
 t212 := Tryz.underlying279
 a212 := Tryz.isAgg279
 z212 := Tryz.sizeOf279
 v212 := Tryz.zeroValue279
 t213 := Tryz.underlying281
 a213 := Tryz.isAgg281
 z213 := Tryz.sizeOf281
 t232 := Tryz.underlying284
 a232 := Tryz.isAgg284
 z232 := Tryz.sizeOf284
 v232 := Tryz.zeroValue284
 t233 := Tryz.underlying285
 a233 := Tryz.isAgg285
 z233 := Tryz.sizeOf285
 v233 := Tryz.zeroValue285
 g17 := by kernel_rfl
 g18 := by kernel_rfl
 g19 := by kernel_rfl
 i0 := by kernel_rfl
 i2 := by kernel_rfl
 i3 := by kernel_rfl
 i4 := by kernel_rfl
 i5 := by kernel_rfl
 i9 := by kernel_rfl
 i20 := by kernel_rfl
 i37 := by kernel_rfl
 i46 := by kernel_rfl
 i51 := by kernel_rfl
 i53 := by kernel_rfl
 i171 := by kernel_rfl
 i173 := by kernel_rfl
 i212 := by kernel_rfl
 i232 := by kernel_rfl
 i233 := by kernel_rfl
 m17 := by kernel_rfl
 m18 := by kernel_rfl
 m19 := by kernel_rfl }
open Go.RowKit Go.Sort Go.Lib in
theorem Tryz.strconv_FormatInt_10 (n : Int) (h0 : -9223372036854775808 ≤ n) (h1 : n ≤ 9223372036854775807) (w : World) (htab : Lib.TabIs Tryz.prog w "internal/strconv.uint64pow10" .u64 Lib.pow10Tab) :
  Calls Tryz.prog 227 #[vi ki n, vi ki 10] w fun e w' => e = zr (.string ⟨(Lib.itoa n).toArray⟩) ∧ ∃ k os, w' = grow (w.drewN k) os := Any.strconv_FormatInt_10 Tryz.laysM173 n h0 h1 w htab
def Tryz.lays173_ren : Go.Shelf.Ren := ⟨fun | 173 => 227 | 246 => 231 | 283 => 234 | 284 => 235 | 285 => 236 | 286 => 237 | 129 => 240 | 317 => 239 | 318 => 241 | 319 => 242 | 320 => 243 | 337 => 245 | 338 => 246 | n => n, fun | 2 => 2 | 3 => 3 | 9 => 9 | 4 => 4 | 171 => 272 | 0 => 0 | 53 => 203 | 37 => 219 | 5 => 5 | 173 => 275 | 212 => 279 | 51 => 280 | 20 => 20 | 213 => 281 | 46 => 204 | 232 => 284 | 233 => 285 | n => n, fun | 17 => 2 | 18 => 3 | 19 => 4 | n => n⟩
theorem Tryz.lays173 : Go.Proofs.Lays.n173 Tryz.prog Tryz.lays173_ren := {
 mixed := by kernel_rfl
 f129 := Tryz.func240.trans (congrArg some (by kernel_rfl))
 f173 := Tryz.func227.trans (congrArg some (by kernel_rfl))
 f246 := Tryz.func231.trans (congrArg some (by kernel_rfl))
 f283 := Tryz.func234.trans (congrArg some (by kernel_rfl))
 f284 := Tryz.func235.trans (congrArg some (by kernel_rfl))
 f285 := Tryz.func236.trans (congrArg some (by kernel_rfl))
 f286 := Tryz.func237.trans (congrArg some (by kernel_rfl))
 f317 := Tryz.func239.trans (congrArg some (by kernel_rfl))
 f318 := Tryz.func241.trans (congrArg some (by kernel_rfl))
 f319 := Tryz.func242.trans (congrArg some (by kernel_rfl))
 f320 := Tryz.func243.trans (congrArg some (by kernel_rfl))
 f337 := Tryz.func245.trans (congrArg some (by kernel_rfl))
 f338 := Tryz.func246.trans (congrArg some (by kernel_rfl))
 t0 := Tryz.underlying0
 a0 := Tryz.isAgg0
 z0 := Tryz.sizeOf0
 v0 := Tryz.zeroValue0
 t2 := Tryz.underlying2
 a2 := Tryz.isAgg2
 z2 := Tryz.sizeOf2
 v2 := Tryz.zeroValue2
 t3 := Tryz.underlying3
 a3 := Tryz.isAgg3
 z3 := Tryz.sizeOf3
 v3 := Tryz.zeroValue3
 t4 := Tryz.underlying4
 a4 := Tryz.isAgg4
 z4 := Tryz.sizeOf4
 v4 := Tryz.zeroValue4
 t5 := Tryz.underlying5
 a5 := Tryz.isAgg5
 z5 := Tryz.sizeOf5
 v5 := Tryz.zeroValue5
 t9 := Tryz.underlying9
 a9 := Tryz.isAgg9
 z9 := Tryz.sizeOf9
 v9 := Tryz.zeroValue9
 t20 := Tryz.underlying20
 a20 := Tryz.isAgg20
 z20 := Tryz.sizeOf20
 v20 := Tryz.zeroValue20
 t37 := Tryz.underlying219
 a37 := Tryz.isAgg219
 z37 := Tryz.sizeOf219
 v37 := Tryz.zeroValue219
 t46 := Tryz.underlying204
 a46 := Tryz.isAgg204
 z46 := Tryz.sizeOf204
 v46 := Tryz.zeroValue204
 t51 := Tryz.underlying280
 a51 := Tryz.isAgg280
 z51 := Tryz.sizeOf280
 v51 := Tryz.zeroValue280
 t53 := Tryz.underlying203
 a53 := Tryz.isAgg203
 z53 := Tryz.sizeOf203
 v53 := Tryz.zeroValue203
 t171 := Tryz.underlying272
 a171 := Tryz.isAgg272
 z171 := Tryz.sizeOf272
 v171 := Tryz.zeroValue272
 t173 := Tryz.underlying275
 a173 := Tryz.isAgg275
 z173 := Tryz.sizeOf275
 v173 := Tryz.zeroValue275
 t212 := Tryz.underlying279
 a212 := Tryz.isAgg279
 z212 := Tryz.sizeOf279
 v212 := Tryz.zeroValue279
 t213 := Tryz.underlying281
 a213 := Tryz.isAgg281
 z213 := Tryz.sizeOf281
 t232 := Tryz.underlying284
 a232 := Tryz.isAgg284
 z232 := Tryz.sizeOf284
 v232 := Tryz.zeroValue284
 t233 := Tryz.underlying285
 a233 := Tryz.isAgg285
 z233 := Tryz.sizeOf285
 v233 := Tryz.zeroValue285
 g17 := by kernel_rfl
 g18 := by kernel_rfl
 g19 := by kernel_rfl }
open Go.RowKit Go.Sort Go.Lib in
theorem Tryz.strconv_FormatInt_10_small (i : Nat) (hi : i < 100) (w : World) :
  Calls Tryz.prog 227 #[vi ki i, vi ki 10] w fun e w' => e = zr (.string ⟨(Lib.decDigits i).toArray⟩) ∧ w' = w := Any.strconv_FormatInt_10_small Tryz.lays173 i hi w
end Go.Proofs
namespace Go.Proofs.YtklehbmghjcmaaaGreatDoor.Clk
open Go.RowKit
def Tab (w : World) : Prop := Lib.TabIs Tryz.prog w "internal/strconv.uint64pow10" .u64 Lib.pow10Tab
theorem Tab.below {w w1 : World} (h : Tab w) (hb : Below w.heap.size w w1) : Tab w1 := Lib.tabBelow_of_tabIs h w1 hb
theorem formatInt_any (n : Int) (h0 : -9223372036854775808 ≤ n) (h1 : n ≤ 9223372036854775807) (w : World) (hT : Tab w) :
  Calls Tryz.prog 227 #[vi ki n, vi ki 10] w fun e w' => e = zr (.string ⟨(Lib.itoa n).toArray⟩) ∧ Below w.heap.size w w' :=
 (Tryz.strconv_FormatInt_10 n h0 h1 w hT).mono fun e w' ⟨he, k, os, hw⟩ => ⟨he, hw ▸ Lib.below_grow w.heap.size w (Nat.le_refl _) k os⟩
def dgB (n : Int) : ByteArray := ⟨(Lib.decDigits n.natAbs).toArray⟩
theorem nDigits_le {u : Nat} (h : u < 10000000000000000000) : Lib.nDigits u ≤ 19 := by
 have g : ∀ k v : Nat, v < 10 ^ k → 1 ≤ k → Lib.nDigits v ≤ k := by
  intro k
  induction k with
  | zero => intro v _ h1; omega
  | succ k ih =>
   intro v hv _
   by_cases h10 : v < 10
   ·rw [Lib.nDigits_small h10]; omega
   ·rw [Lib.nDigits_big h10]
    have hp : (10 : Nat) ^ (k + 1) = 10 ^ k * 10 := Nat.pow_succ ..
    have : v / 10 < 10 ^ k := by omega
    have hk : 1 ≤ k := by
     cases k with
     | zero => simp at this; omega
     | succ k => omega
    have := ih (v / 10) this hk
    omega
 exact g 19 u (by simpa using h) (by decide)
theorem dgB_size {n : Int} (h0 : -9223372036854775808 ≤ n) (h1 : n ≤ 9223372036854775807) : (dgB n).size ≤ 19 := by
 have : (dgB n).size = (Lib.decDigits n.natAbs).length := rfl
 rw [this, Lib.decDigits_length]
 exact nDigits_le (by omega)
theorem digit_head (u : Nat) : ∃ c l, Lib.decDigits u = c :: l ∧ c ≠ 45 := by
 have h := Lib.decDigits_eq u
 have hp := Lib.nDigits_pos u
 obtain ⟨k, hk⟩ : ∃ k, Lib.nDigits u = k + 1 := ⟨Lib.nDigits u - 1, by omega⟩
 rw [hk] at h
 rw [List.range_succ_eq_map] at h
 refine ⟨_, _, h, ?_⟩
 unfold Lib.dg
 have : ∀ d : Fin 10, UInt8.ofNat (48 + d.val) ≠ 45 := by decide
 exact this ⟨_, Nat.mod_lt _ (by decide)⟩
theorem cut_itoa (n : Int) : Lib.trimPrefix (Lib.itoa n) [45] = Lib.decDigits n.natAbs ∧ Lib.hasPrefix (Lib.itoa n) [45] = decide (n < 0) := by
 unfold Lib.itoa
 by_cases h : n < 0
 ·rw [if_pos h, decide_eq_true h]
  exact ⟨rfl, rfl⟩
 ·rw [if_neg h, decide_eq_false h]
  obtain ⟨c, l, hc, hn⟩ := digit_head n.toNat
  have e : n.natAbs = n.toNat := by omega
  rw [e, hc]
  have hp : Lib.hasPrefix (c :: l) [45] = false := by
   unfold Lib.hasPrefix
   simp only [List.isPrefixOf, Bool.and_eq_false_iff, beq_eq_false_iff_ne]
   exact .inl (fun k => hn k.symm)
  unfold Lib.trimPrefix
  rw [hp]
  exact ⟨rfl, rfl⟩
def padB (d : ByteArray) : ByteArray := if d.size < 2 then ⟨#[48]⟩ ++ d else d
def twoB (n : Int) : ByteArray := if n < 0 then ⟨#[45]⟩ ++ padB (dgB n) else padB (dgB n)
theorem padB_size (d : ByteArray) : (padB d).size ≤ d.size + 1 := by
 unfold padB
 split
 ·rw [ByteArray.size_append]; show 1 + d.size ≤ _; omega
 ·omega
theorem twoB_size {n : Int} (h0 : -9223372036854775808 ≤ n) (h1 : n ≤ 9223372036854775807) : (twoB n).size ≤ 21 := by
 have a := dgB_size h0 h1
 have b := padB_size (dgB n)
 unfold twoB
 split
 ·rw [ByteArray.size_append]; show 1 + (padB (dgB n)).size ≤ _; omega
 ·omega
theorem two_core (n : Int) (S D : ByteArray) (b : Bool) (hD : D.size ≤ 19)
  (H1 : Hid (∀ w : World, Tab w → Calls Tryz.prog 227 #[vi ki n, vi ki 10] w fun e w' => e = zr (.string S) ∧ Below w.heap.size w w'))
  (H2 : Hid (∀ w : World, Calls Tryz.prog 232 #[.string S, .string ⟨#[45]⟩] w fun e w' => e = zr (.tuple #[.string D, .bool b]) ∧ w' = w))
  (w : World) (hT : Hid (Tab w)) :
  Calls Tryz.prog 228 #[vi ki n] w fun e w' => e = zr (.string (if b then ⟨#[45]⟩ ++ padB D else padB D)) ∧ Below w.heap.size w w' := by
 by_cases hs : D.size < 2
 ·have hs' : (D.size : Int) < 2 := by omega
  have hp : Hid (padB D = ⟨#[48]⟩ ++ D) := if_pos hs
  cases b
  all_goals
   go_enter Tryz.func228, Tryz.ntmps228
   go_wp2_with fail
   refine (H1.out _ hT.out).mono ?_
   rintro e w1 ⟨rfl, hb⟩
   go_wp2_with fail
   refine (H2.out _).mono ?_
   rintro e w2 ⟨rfl, rfl⟩
   go_wp2
   go_ret
   exact ⟨by rw [hp.out]; rfl, hb⟩
 ·have hs' : ¬ (D.size : Int) < 2 := by omega
  have hp : Hid (padB D = D) := if_neg hs
  cases b
  all_goals
   go_enter Tryz.func228, Tryz.ntmps228
   go_wp2_with fail
   refine (H1.out _ hT.out).mono ?_
   rintro e w1 ⟨rfl, hb⟩
   go_wp2_with fail
   refine (H2.out _).mono ?_
   rintro e w2 ⟨rfl, rfl⟩
   go_wp2
   go_ret
   exact ⟨by rw [hp.out]; rfl, hb⟩
theorem two_any (n : Int) (h0 : -9223372036854775808 ≤ n) (h1 : n ≤ 9223372036854775807) (w : World) (hT : Tab w) :
  Calls Tryz.prog 228 #[vi ki n] w fun e w' => e = zr (.string (twoB n)) ∧ Below w.heap.size w w' := by
 have H2 : ∀ w : World, Calls Tryz.prog 232 #[.string ⟨(Lib.itoa n).toArray⟩, .string ⟨#[45]⟩] w fun e w' => e = zr (.tuple #[.string (dgB n), .bool (decide (n < 0))]) ∧ w' = w := fun w => by
  have h := Tryz.strings_CutPrefix ⟨(Lib.itoa n).toArray⟩ ⟨#[45]⟩ w
  have e : (⟨(Lib.itoa n).toArray⟩ : ByteArray).data.toList = Lib.itoa n := rfl
  rw [e, show (⟨#[45]⟩ : ByteArray).data.toList = [45] from rfl, (cut_itoa n).1, (cut_itoa n).2] at h
  exact h
 have R := two_core n _ _ _ (dgB_size h0 h1) (fun w h => formatInt_any n h0 h1 w h) H2 w hT
 unfold twoB
 by_cases h : n < 0
 ·rw [if_pos h]; rw [decide_eq_true h] at R; exact R
 ·rw [if_neg h]; rw [decide_eq_false h] at R; exact R
end Go.Proofs.YtklehbmghjcmaaaGreatDoor.Clk
namespace Go.Proofs.YtklehbmghjcmaaaGreatDoor
open Go.RowKit
theorem sizeL (l : List UInt8) : (⟨l.toArray⟩ : ByteArray).size = l.length := by simp [ByteArray.size]
def digB (n : Int) : ByteArray := ⟨(Lib.itoa n).toArray⟩
theorem itoa_nat (i : Nat) : Lib.itoa (i : Int) = Lib.decDigits i := by unfold Lib.itoa; rw [if_neg (by omega)]; simp
theorem format_small (n : Int) (h0 : 0 ≤ n) (h1 : n < 100) (w : World) : Calls Tryz.prog 227 #[vi ki n, vi ki 10] w fun e w' => e = zr (.string (digB n)) ∧ w' = w := by
 obtain ⟨i, rfl⟩ : ∃ i : Nat, n = (i : Int) := ⟨n.toNat, by omega⟩
 have R := Tryz.strconv_FormatInt_10_small i (by omega) w
 unfold digB
 rw [itoa_nat]
 exact R
theorem digB_size (n : Int) (h0 : 0 ≤ n) (h1 : n < 100) : (digB n).size ≤ 21 := by
 have := Lib.itoa_length_le n (by omega) (by omega)
 unfold digB
 rw [sizeL]
 omega
end Go.Proofs.YtklehbmghjcmaaaGreatDoor
