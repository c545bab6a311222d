/- The table of the laws' fixed calls (law17's berlin), and a stamp of a date and a time (law17's at). -/
import Derived.Test.YtigeccplombggaaGreatDoorZnNoq
import Derived.Laws.AppendOwn
namespace Go.Proofs.YtigeccplombggaaGreatDoor
open Go.RowKit Sr
set_option linter.unusedVariables false

def nmB : ByteArray := ⟨#[69, 117, 114, 111, 112, 101, 47, 66, 101, 114, 108, 105, 110]⟩
def fB : TrR := ⟨0, 3600, false, ⟨#[67, 69, 84]⟩⟩
def LB : List TrR := [⟨1711846800, 7200, true, ⟨#[67, 69, 83, 84]⟩⟩, ⟨1729990800, 3600, false, ⟨#[67, 69, 84]⟩⟩]
def zeT : List Value := tbF ⟨#[]⟩ ⟨0, 0, false, ⟨#[]⟩⟩ (.slice none 0 0) zeF
theorem one_b (ao : Option Addr) (n c : Nat) : (tbF nmB fB (.slice ao n c) zeF).toArray.all (·.oneCell') = true := by
  simp [tbF, trC, zeF, nmB, fB, Value.oneCell']
theorem TrAt.offB {W : World} {g o n c b i : Nat} {v : Value} {L : List TrR} (h : TrAt W (.slice (some ⟨g, o, none⟩) n c) L) (hg : g ≠ b) : TrAt (W.setCell ⟨b, i, none⟩ v) (.slice (some ⟨g, o, none⟩) n c) L := by
  obtain ⟨h1, h2, h3⟩ := h
  refine ⟨h1, h2, h3.imp_right ?_⟩
  rintro ⟨g', o', c', e, hg', hc⟩
  have e0 := e
  simp only [Value.slice.injEq, Option.some.injEq, Addr.mk.injEq] at e
  obtain ⟨⟨rfl, rfl, _⟩, _, rfl⟩ := e
  exact ⟨_, _, _, e0, by simpa using hg', fun j u hj => (World.cell?_setCell_other _ _ _ _ (fun q => hg (by cases q; rfl))).trans (hc j u hj)⟩
theorem results_c1 {P : Program} {fn : Func} {p : Tmp} {ty : TypeId} (h : fn.results = #[.cell p ty]) (tmps : Array Value) (w : World) (a : Addr) (v : Value) (hp : tmps[p]?.getD undef = .pointer (some a)) (hl : (loadVar ty a).run P w = .ok v w) :
    (results fn tmps).run P w = .ok v w := by
  simp [results, h, hp, asAddr, hl]
theorem infoT9 : (Tryz.prog.info? 23).map (fun i => (i.zero, i.size, i.bytes)) = some (some (.agg #[.int .i64 0, .int .i64 0, .bool false, .string ⟨#[]⟩]), 4, 40) := by kernel_rfl
theorem cells_new9 (w : World) (l : List Value) (t : TypeId) : ∀ j u, l[j]? = some u → (w.alloc (.cells l.toArray t)).cell? ((⟨w.heap.size, 0, none⟩ : Addr).add j) = some u := fun j u hu => by
  have := (Bx.new w l t).c j hu
  unfold Addr.add
  split
  · rename_i h; subst h; exact this
  · simpa using this

theorem OkB.okS (sv : Value) (L : List TrR) : OkS (bkS sv L) (fun W => TrAt W sv L) := by
  refine ⟨fun W W' h hs hk => ?_, fun W h k hk => ?_, fun W h => h⟩
  · obtain ⟨h1, h2, h3⟩ := h
    refine ⟨h1, h2, h3.imp_right ?_⟩
    rintro ⟨g, o, c, e, hg, hc⟩
    refine ⟨g, o, c, e, Nat.lt_of_lt_of_le hg hs, fun j u hj => ?_⟩
    cases L with
    | nil => simp [trCs] at hj
    | cons x l => exact (World.cell?_of_block (w := W) (hk g (by subst e; simp [bkS]))).trans (hc j u hj)
  · cases L with
    | nil => simp [bkS] at hk
    | cons x l =>
      obtain ⟨_, _, h3⟩ := h
      rcases h3 with h3 | ⟨g, o, c, e, hg, hc⟩
      · cases h3
      · subst e; simp [bkS] at hk; omega

set_option maxRecDepth 100000 in
set_option maxHeartbeats 8000000 in
theorem berlin_any (w : World) : Calls Tryz.prog 40 #[] w fun e w' => ∃ ao c, e = .returned (.agg (tbF nmB fB (.slice ao 2 c) zeF).toArray) ∧ 2 ≤ c ∧ TrAt w' (.slice ao 2 c) LB ∧ Below w.heap.size w w' := by
  have X0 : Hid (Bx ((w.alloc (.cells zeT.toArray 44)).alloc (.cells zeT.toArray 44)) w.heap.size zeT) := (Bx.new w zeT _).alloc _
  have X1 : Hid (Bx ((w.alloc (.cells zeT.toArray 44)).alloc (.cells zeT.toArray 44)) (w.heap.size + 1) zeT) := Bx.newAt _ zeT _ _ (by simp)
  have B1 : Hid (Below w.heap.size w ((w.alloc (.cells zeT.toArray 44)).alloc (.cells zeT.toArray 44))) := ((Below.refl _ _).alloc (Nat.le_refl _) _).alloc (by simp) _
  go_enter Tryz.func40, Tryz.ntmps40
  go_upto_region 2 with (refine wpList_store_mid rfl 44 _ _ rfl (w.heap.size + 1) 0 (tbF nmB fB (.slice none 0 0) zeF).toArray rfl rfl X1.out.there (by kernel_rfl) (one_b _ _ _) ?_; refine gen_list (fun V => Bx V w.heap.size zeT ∧ Bx V (w.heap.size + 1) (tbF nmB fB (.slice none 0 0) zeF) ∧ Below w.heap.size w V) ⟨X0.out.setOther (by omega) _, X1.out.setAll _ rfl, below_setCells (by omega) _ _ _ B1.out⟩ ?_; clear X0 X1 B1; rintro V ⟨X0', X1', B1'⟩; have X0 : Hid (Bx V w.heap.size zeT) := X0'; have X1 : Hid (Bx V (w.heap.size + 1) (tbF nmB fB (.slice none 0 0) zeF)) := X1'; have B1 : Hid (Below w.heap.size w V) := B1'; clear X0' X1' B1')
  obtain ⟨i1, hi1, hy0, hy1, hy2⟩ := info_parts infoT9
  have c5 := X1.out.c 5 rfl
  have hbs := B1.out.size
  have hl1 := X1.out.1
  go_upto_region 3 with (at_builtin; refine wpList_append_own _ rfl _ _ 24 rfl (V.heap.size + 1) 23 i1 (.agg #[.int .i64 0, .int .i64 0, .bool false, .string ⟨#[]⟩]) 4 40 Tryz.underlying24 hi1 hy0 hy1 hy2 rfl (by decide) (.slice none 0 0) 0 [] rfl (World.ownsRow_nil _ _ _ _) ⟨V.heap.size, 0, none⟩ 2 2 (trCs LB) rfl rfl (cells_new9 V (trCs LB) 23) (trCs_one LB) (by unfold maxLen; omega) (by omega) (by simp) ?_; intro v' w9 hown' hgrow' _; obtain ⟨g', cap', hv'⟩ := ownsRow_succ hown'; subst hv'; have hb9 : Below V.heap.size V w9 := ⟨hgrow'.os, hgrow'.tape, hgrow'.output, Nat.le_trans (by simp) hgrow'.size, fun k hk => (hgrow'.block k (by simp; omega) (by simp [Value.ownBlock])).trans (Below.heap_alloc _ _ _ hk)⟩; have X9 := X1.out.below hb9; have c9 := X9.c 5 rfl; have z9 := X9.f 5 (v := .slice none 0 0) rfl)
  have hg9 : V.heap.size + 1 ≤ g' := by
    rcases hown'.2 with ⟨e, _⟩ | ⟨g, cap, cur, e, hb, _⟩
    · cases e
    · cases e; exact hb
  have hcap : 2 ≤ cap' := by
    rcases hown'.2 with ⟨e, _⟩ | ⟨g, cap, cur, e, hb, hh, h1, _⟩
    · cases e
    · cases e; exact h1
  have HTR : TrAt w9 (.slice (some ⟨g', 0, none⟩) 2 cap') LB := TrAt.of_own (L := LB) hown'
  refine gen_code (fun U => Bx U w.heap.size zeT ∧ Bx U (w.heap.size + 1) (tbF nmB fB (.slice (some ⟨g', 0, none⟩) 2 cap') zeF) ∧ TrAt U (.slice (some ⟨g', 0, none⟩) 2 cap') LB ∧ Below w.heap.size w U) ⟨bx_turns (X0.out.below hb9) (Turns.setCell (M := [w.heap.size + 1]) _ _ _ (by simp)) (by simp), bx_set1 X9 5 (.slice (some ⟨g', 0, none⟩) 2 cap') (by rw [tbF_len rfl]; decide), HTR.offB (by omega), (B1.out.trans (hb9.mono hbs)).setCell (p := ⟨w.heap.size + 1, 5, none⟩) (by simp) _⟩ ?_
  clear HTR X9 c9 z9 hb9 hgrow' hown' c5 X0 X1 B1
  rintro U ⟨X0', X1', HT', B1'⟩
  have X0 : Hid (Bx U w.heap.size zeT) := X0'
  have X1 : Hid (Bx U (w.heap.size + 1) (tbF nmB fB (.slice (some ⟨g', 0, none⟩) 2 cap') zeF)) := X1'
  have B1 : Hid (Below w.heap.size w U ∧ TrAt U (.slice (some ⟨g', 0, none⟩) 2 cap') LB) := ⟨B1', HT'⟩
  clear X0' X1' HT' B1'
  go_wp2_with (first | (refine wpList_load_mid rfl 44 _ rfl (w.heap.size + 1) 0 rfl (tbF nmB fB (.slice (some ⟨g', 0, none⟩) 2 cap') zeF) _ X1.out.all Tryz.underlying44 rfl (by kernel_rfl) ?_) | (refine wpList_store_mid rfl 44 _ _ rfl w.heap.size 0 (tbF nmB fB (.slice (some ⟨g', 0, none⟩) 2 cap') zeF).toArray rfl rfl X0.out.there (by kernel_rfl) (one_b _ _ _) ?_; refine gen_list (fun Z => Bx Z w.heap.size (tbF nmB fB (.slice (some ⟨g', 0, none⟩) 2 cap') zeF) ∧ TrAt Z (.slice (some ⟨g', 0, none⟩) 2 cap') LB ∧ Below w.heap.size w Z) ⟨X0.out.setAll _ rfl, ?_, below_setCells (Nat.le_refl _) _ _ _ B1.out.1⟩ ?_) | fail)
  · exact ((OkB.okS _ _).keep _ _ B1.out.2 (by rw [setCells_size]; exact Nat.le_refl _) (fun k hk => by simp [bkS, LB] at hk; subst hk; exact (turns_setCells _ _ _ _).block _ (by have := B1.out.2; obtain ⟨_, _, h3⟩ := this; rcases h3 with h3 | ⟨g, o, c, e, hg, _⟩; cases h3; cases e; exact hg) (by simp; omega)))
  · rintro Z XZ TZ BZ
    go_wp2_with fail
    exact bodyPost_ret (v := .agg (tbF nmB fB (.slice (some ⟨g', 0, none⟩) 2 cap') zeF).toArray) (results_c1 rfl _ _ _ _ rfl (run_loadVar_mid _ _ _ _ _ _ XZ.all Tryz.underlying44 rfl (by kernel_rfl))) rfl ⟨_, _, rfl, hcap, TZ, BZ⟩

end Go.Proofs.YtigeccplombggaaGreatDoor
