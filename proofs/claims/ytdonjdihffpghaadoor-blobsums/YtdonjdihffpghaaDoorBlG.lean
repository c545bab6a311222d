/- The machine that writes; contract: blob.writer. -/
import Derived.Test.YtdonjdihffpghaaDoorBlF
namespace Go.Proofs.YtdonjdihffpghaaDoor
open Go.RowKit Sr
set_option linter.unusedVariables false

theorem set_same {cs : Array Value} {i : Nat} {v : Value} (h : cs[i]? = some v) : cs.setIfInBounds i v = cs := by
  obtain ⟨hi, he⟩ := Array.getElem?_eq_some_iff.1 h
  apply Array.ext
  · simp
  · intro j h1 h2
    rw [Array.getElem_setIfInBounds]
    split
    · rename_i e; subst e; exact he.symm
    · rfl
theorem ct_of {W : World} {bb b i : Nat} {cs : Array Value} {ty : TypeId} {fz : Nat × Nat} {v : Value} (h : W.heap[b]? = some (.cells cs ty fz)) (hb : b ≠ bb) (h5 : ty ≠ 5) (hi : cs[i]? = some v) : CT W bb ⟨b, i, none⟩ v :=
  ⟨cell_of h hi, hb, _, h, fun _ _ e => h5 (by cases e; rfl)⟩
theorem kt_done {W W' : World} {bb b i : Nat} {cs : Array Value} {ty : TypeId} {v : Value} (h : W.heap[b]? = some (.cells cs ty (0, 0))) (hb : b ≠ bb) (h5 : ty ≠ 5) (hi : cs[i]? = some v) (k : KT bb W W') : W'.heap[b]? = some (.cells (cs.setIfInBounds i v) ty (0, 0)) := by
  rw [set_same hi]; exact k.2 _ _ h hb (fun _ _ e => h5 (by cases e; rfl))
def flB (x : Bool) : UInt8 := if x then 1 else 0
/-- the closures that write. -/
def wPM (w0 : World) (bb base pb : Nat) : PM bb pb where
  kN := 34
  kO := 36
  kF := 37
  kT := 38
  lo := w0.heap.size
  lw := 0
  St W σ := WS w0 bb base W σ ∧ 0 < σ.length ∧ CT W bb ⟨pb, 0, none⟩ (putF bb)
  ok σ := σ.length ≤ 900000
  num σ x := (σ ++ beB 8 (u64N x), x)
  oct σ x := (σ ++ [x], x)
  flag σ x := (σ ++ [flB x], x)
  text σ s := (σ ++ (UInt8.ofNat s.size :: s.data.toList), s)
  hN W σ b i cs ty x hS hk hblk hb hb2 h5 _ hi := by
    refine (wnum_any w0 bb base pb W σ hS.1 (by simp at hk; omega) hS.2.1 ⟨b, i, none⟩ x (ct_of hblk hb h5 hi) hS.2.2).mono ?_
    rintro e W' ⟨hv, hw, hkt⟩
    exact ⟨hv, ⟨hw, by have := hS.2.1; simp; try omega, hS.2.2.kt hkt⟩, kt_done hblk hb h5 hi hkt, KT2.of_kt hkt⟩
  hO W σ b i cs ty x hS hk hblk hb hb2 h5 _ hi := by
    refine (woct_any w0 bb base pb W σ hS.1 (by simp at hk; omega) hS.2.1 ⟨b, i, none⟩ _ x rfl (ct_of hblk hb h5 hi) hS.2.2).mono ?_
    rintro e W' ⟨hv, hw, hkt⟩
    exact ⟨hv, ⟨hw, by have := hS.2.1; simp; try omega, hS.2.2.kt hkt⟩, kt_done hblk hb h5 hi hkt, KT2.of_kt hkt⟩
  hF W σ b i cs ty x hS hk hblk hb hb2 h5 _ hi := by
    cases x
    · refine (wflag_false w0 bb base pb W σ hS.1 (by simp at hk; omega) hS.2.1 ⟨b, i, none⟩ (ct_of hblk hb h5 hi) hS.2.2).mono ?_
      rintro e W' ⟨hv, hw, hkt⟩
      exact ⟨hv, ⟨hw, by have := hS.2.1; simp; try omega, hS.2.2.kt hkt⟩, kt_done hblk hb h5 hi hkt, KT2.of_kt hkt⟩
    · refine (wflag_true w0 bb base pb W σ hS.1 (by simp at hk; omega) hS.2.1 ⟨b, i, none⟩ (ct_of hblk hb h5 hi) hS.2.2).mono ?_
      rintro e W' ⟨hv, hw, hkt⟩
      exact ⟨hv, ⟨hw, by have := hS.2.1; simp; try omega, hS.2.2.kt hkt⟩, kt_done hblk hb h5 hi hkt, KT2.of_kt hkt⟩
  hT W σ b i cs ty x hS hk hblk hb hb2 h5 _ hi := by
    have hz : x.data.toList.length = x.size := Array.length_toList
    refine (wtext_any w0 bb base pb W σ hS.1 (by simp at hk; omega) hS.2.1 ⟨b, i, none⟩ x (by simp only [List.length_append, List.length_cons, hz] at hk; omega) (ct_of hblk hb h5 hi) hS.2.2).mono ?_
    rintro e W' ⟨hv, hw, hkt⟩
    exact ⟨hv, ⟨hw, by have := hS.2.1; simp; try omega, hS.2.2.kt hkt⟩, kt_done hblk hb h5 hi hkt, KT2.of_kt hkt⟩
  bN σ x h := by simp at h; omega
  bO σ x h := by simp at h; omega
  bF σ x h := by simp at h; omega
  bT σ x h := by simp at h; omega
  eN args w := by kernel_rfl
  eO args w := by kernel_rfl
  eF args w := by kernel_rfl
  eT args w := by kernel_rfl
  below W W' σ hS hb := ⟨hS.1.mv hb, hS.2.1, hS.2.2.mv hb⟩
  set W σ b i cs ty v hS hblk hlo hb hb2 h5 := by
    have hg := (KeepsWalks.setCell W ⟨b, i, none⟩ v).size
    have hne : ∀ k, k ≠ b → (W.setCell ⟨b, i, none⟩ v).heap[k]? = W.heap[k]? := fun k hk => Below.heap_setCell _ _ _ k (by simpa using hk)
    obtain ⟨u, hu, ho⟩ := hS.1.own
    refine ⟨⟨hS.1.below.setCell (p := ⟨b, i, none⟩) hlo v, hS.1.hb, hS.1.hbase, Nat.le_trans hS.1.hsz hg, hS.1.le, u, (hne _ (Ne.symm hb)).trans hu, ?_⟩, hS.2.1, ?_⟩
    · refine ho.mv (fun g o hgo ho' => (hne g ?_).trans ho')
      rintro rfl
      obtain ⟨cs', fz, h9⟩ := ho.blk5 g hgo
      rw [hblk] at h9
      cases h9
      exact h5 rfl
    · obtain ⟨c1, c2, o, c3, c4⟩ := hS.2.2
      have h9 := hne pb (Ne.symm hb2)
      exact ⟨(World.cell?_of_block h9).trans c1, c2, o, h9.trans c3, c4⟩
  le W σ hS := Nat.zero_le _
  lt W σ hS := by
    obtain ⟨u, hu, ho⟩ := hS.1.own
    obtain ⟨c1, c2, o, c3, c4⟩ := hS.2.2
    exact ⟨hu.lt, (Array.getElem?_eq_some_iff.1 c3).1⟩

theorem setCells_heap {b k : Nat} (hk : k ≠ b) : ∀ (vs : List Value) (W : World) (i : Nat), (W.setCells b i vs).heap[k]? = W.heap[k]?
  | [], _, _ => rfl
  | v :: vs, W, i => by rw [World.setCells, setCells_heap hk vs]; exact Below.heap_setCell _ _ _ k (by simpa using hk)
theorem results_cell1' {P : Program} {fn : Func} {p : Tmp} {ty : TypeId} (h : fn.results = #[.cell p ty]) (tmps : Array Value) (w : World) (a : Addr) (v : Value) (hp : tmps[p]?.getD undef = .pointer (some a)) (hl : (loadVar ty a).run P w = .ok v w) :
    (results fn tmps).run P w = .ok v w := by
  simp [results, h, hp, asAddr, hl]

set_option maxRecDepth 100000 in
set_option maxHeartbeats 4000000 in
theorem writer_any (bb : Nat) (w : World) :
    Calls Tryd.prog 19 #[putF bb] w fun e w' => e = .returned (.agg #[clo 34 w.heap.size, clo 36 w.heap.size, clo 37 w.heap.size, clo 38 w.heap.size]) ∧ Below w.heap.size w w' ∧ w'.heap[w.heap.size]? = some (.cells #[putF bb] 71 (0, 0)) := by
  obtain ⟨W2, hW2⟩ : ∃ W2, (w.alloc (.cells #[putF bb] 71)).alloc (.cells #[.nilFunc, .nilFunc, .nilFunc, .nilFunc] 69) = W2 := ⟨_, rfl⟩
  have X1 : Hid (Bx W2 (w.heap.size + 1) [.nilFunc, .nilFunc, .nilFunc, .nilFunc]) := by rw [← hW2]; exact Bx.newAt (w.alloc (.cells #[putF bb] 71)) [.nilFunc, .nilFunc, .nilFunc, .nilFunc] 69 (w.heap.size + 1) (by simp)
  have B1 : Hid (Below w.heap.size w W2) := by rw [← hW2]; exact ((Below.refl _ _).alloc (Nat.le_refl _) _).alloc (by simp) _
  have Y1 : Hid (W2.heap[w.heap.size]? = some (.cells #[putF bb] 71 (0, 0))) := by rw [← hW2]; exact (Below.heap_alloc _ _ _ (by simp)).trans (World.alloc_heap_new w _)
  go_enter Tryd.func19, Tryd.ntmps19
  go_wp2_with (refine wpList_store_mid rfl 69 _ _ rfl (w.heap.size + 1) 0 #[clo 34 w.heap.size, clo 36 w.heap.size, clo 37 w.heap.size, clo 38 w.heap.size] rfl rfl X1.out.there (by kernel_rfl) (all_oneCell_toArray (cs := [clo 34 w.heap.size, clo 36 w.heap.size, clo 37 w.heap.size, clo 38 w.heap.size]) (by intro v hv; simp at hv; rcases hv with rfl | rfl | rfl | rfl <;> rfl)) ?_; refine gen_list (fun V => Bx V (w.heap.size + 1) [clo 34 w.heap.size, clo 36 w.heap.size, clo 37 w.heap.size, clo 38 w.heap.size] ∧ Below w.heap.size w V ∧ V.heap[w.heap.size]? = some (.cells #[putF bb] 71 (0, 0))) ⟨X1.out.setAll [clo 34 w.heap.size, clo 36 w.heap.size, clo 37 w.heap.size, clo 38 w.heap.size] rfl, below_setCells (by omega) _ _ _ B1.out, (setCells_heap (by omega) _ _ _).trans Y1.out⟩ ?_; clear X1 B1 Y1; rintro V ⟨XV, BV, YV⟩)
  exact bodyPost_ret (v := .agg #[clo 34 w.heap.size, clo 36 w.heap.size, clo 37 w.heap.size, clo 38 w.heap.size]) (results_cell1' rfl _ _ _ _ rfl (run_loadVar_mid _ _ _ _ [clo 34 w.heap.size, clo 36 w.heap.size, clo 37 w.heap.size, clo 38 w.heap.size] _ XV.all Tryd.underlying69 rfl (by kernel_rfl))) rfl ⟨rfl, BV, YV⟩

end Go.Proofs.YtdonjdihffpghaaDoor
