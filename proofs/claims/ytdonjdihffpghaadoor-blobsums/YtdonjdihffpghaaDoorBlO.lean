/- The machine that reads; contract: blob.reader. -/
import Derived.Test.YtdonjdihffpghaaDoorBlN
namespace Go.Proofs.YtdonjdihffpghaaDoor
open Go.RowKit Sr
set_option linter.unusedVariables false

/-- the closures that read. -/
def rPM (w0 : World) (rb pb : Nat) : PM rb pb where
  kN := 40
  kO := 41
  kF := 42
  kT := 43
  lo := w0.heap.size
  lw := w0.heap.size
  St W σ := RS w0 rb pb W σ
  ok σ := True
  num σ x := (σ.drop 8, rdN (tkB 8 σ) 0)
  oct σ x := (σ.drop 1, hdB σ)
  flag σ x := (σ.drop 1, ((hdB σ).toNat : Int) == 1)
  text σ s := ((σ.drop 1).drop (hdB σ).toNat, ⟨(tkB (hdB σ).toNat (σ.drop 1)).toArray⟩)
  hN W σ b i cs ty x hS hk hblk hb hb2 h5 hlw hi := rnum_any w0 rb pb W σ hS b i cs ty _ hblk hlw hb hb2 h5 hi
  hO W σ b i cs ty x hS hk hblk hb hb2 h5 hlw hi := roct_any w0 rb pb W σ hS b i cs ty _ hblk hlw hb hb2 h5 hi
  hF W σ b i cs ty x hS hk hblk hb hb2 h5 hlw hi := rflag_any w0 rb pb W σ hS b i cs ty _ hblk hlw hb hb2 h5 hi
  hT W σ b i cs ty x hS hk hblk hb hb2 h5 hlw hi := rtext_any w0 rb pb W σ hS b i cs ty _ hblk hlw hb hb2 h5 hi
  bN σ x h := trivial
  bO σ x h := trivial
  bF σ x h := trivial
  bT σ x h := trivial
  eN args w := by kernel_rfl
  eO args w := by kernel_rfl
  eF args w := by kernel_rfl
  eT args w := by kernel_rfl
  below W W' σ hS hb := hS.mv hb
  set W σ b i cs ty v hS hblk hlo hb hb2 h5 := hS.set v hblk hlo hb hb2 h5
  le W σ hS := hS.below.size
  lt W σ hS := ⟨by obtain ⟨g, o, c, hbx, _⟩ := hS.q; exact hbx.lt, (Array.getElem?_eq_some_iff.1 hS.tk).1⟩

set_option maxRecDepth 100000 in
set_option maxHeartbeats 4000000 in
theorem reader_any (rb : Nat) (w : World) :
    Calls Tryd.prog 25 #[takeF rb] w fun e w' => e = .returned (.agg #[clo 40 w.heap.size, clo 41 w.heap.size, clo 42 w.heap.size, clo 43 w.heap.size]) ∧ Below w.heap.size w w' ∧ w'.heap[w.heap.size]? = some (.cells #[takeF rb] 76 (0, 0)) := by
  obtain ⟨W2, hW2⟩ : ∃ W2, (w.alloc (.cells #[takeF rb] 76)).alloc (.cells #[.nilFunc, .nilFunc, .nilFunc, .nilFunc] 69) = W2 := ⟨_, rfl⟩
  have X1 : Hid (Bx W2 (w.heap.size + 1) [.nilFunc, .nilFunc, .nilFunc, .nilFunc]) := by rw [← hW2]; exact Bx.newAt (w.alloc (.cells #[takeF rb] 76)) [.nilFunc, .nilFunc, .nilFunc, .nilFunc] 69 (w.heap.size + 1) (by simp)
  have B1 : Hid (Below w.heap.size w W2) := by rw [← hW2]; exact ((Below.refl _ _).alloc (Nat.le_refl _) _).alloc (by simp) _
  have Y1 : Hid (W2.heap[w.heap.size]? = some (.cells #[takeF rb] 76 (0, 0))) := by rw [← hW2]; exact (Below.heap_alloc _ _ _ (by simp)).trans (World.alloc_heap_new w _)
  go_enter Tryd.func25, Tryd.ntmps25
  go_wp2_with (refine wpList_store_mid rfl 69 _ _ rfl (w.heap.size + 1) 0 #[clo 40 w.heap.size, clo 41 w.heap.size, clo 42 w.heap.size, clo 43 w.heap.size] rfl rfl X1.out.there (by kernel_rfl) (all_oneCell_toArray (cs := [clo 40 w.heap.size, clo 41 w.heap.size, clo 42 w.heap.size, clo 43 w.heap.size]) (by intro v hv; simp at hv; rcases hv with rfl | rfl | rfl | rfl <;> rfl)) ?_; refine gen_list (fun V => Bx V (w.heap.size + 1) [clo 40 w.heap.size, clo 41 w.heap.size, clo 42 w.heap.size, clo 43 w.heap.size] ∧ Below w.heap.size w V ∧ V.heap[w.heap.size]? = some (.cells #[takeF rb] 76 (0, 0))) ⟨X1.out.setAll [clo 40 w.heap.size, clo 41 w.heap.size, clo 42 w.heap.size, clo 43 w.heap.size] rfl, below_setCells (by omega) _ _ _ B1.out, (setCells_heap (by omega) _ _ _).trans Y1.out⟩ ?_; clear X1 B1 Y1; rintro V ⟨XV, BV, YV⟩)
  exact bodyPost_ret (v := .agg #[clo 40 w.heap.size, clo 41 w.heap.size, clo 42 w.heap.size, clo 43 w.heap.size]) (results_cell1' rfl _ _ _ _ rfl (run_loadVar_mid _ _ _ _ [clo 40 w.heap.size, clo 41 w.heap.size, clo 42 w.heap.size, clo 43 w.heap.size] _ XV.all Tryd.underlying69 rfl (by kernel_rfl))) rfl ⟨rfl, BV, YV⟩


end Go.Proofs.YtdonjdihffpghaaDoor
