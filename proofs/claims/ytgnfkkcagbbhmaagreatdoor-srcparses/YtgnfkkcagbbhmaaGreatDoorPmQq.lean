/- A source as the reference has it, being built in memory: its block and its rows, each apart. -/
import Derived.Test.YtgnfkkcagbbhmaaGreatDoorPmPq
namespace Go.Proofs.YtgnfkkcagbbhmaaGreatDoor
open Go.RowKit
set_option linter.unusedVariables false

def eraRowQ (z : ZnT') (v : Value) : PRow := ⟨78, 11, v, z.2.length, eraXs z.2⟩
def eraRowsQ : List ZnT' → List Value → List PRow
  | z :: l, v :: vs => eraRowQ z v :: eraRowsQ l vs
  | _, _ => []
theorem eraRowsQ_snoc : ∀ (l : List ZnT') (vs : List Value) (z : ZnT') (v : Value), vs.length = l.length → eraRowsQ (l ++ [z]) (vs ++ [v]) = eraRowsQ l vs ++ [eraRowQ z v]
  | [], [], z, v, _ => rfl
  | [], x :: vs, z, v, h => by simp at h
  | y :: l, [], z, v, h => by simp at h
  | y :: l, x :: vs, z, v, h => by
    show _ :: eraRowsQ (l ++ [z]) (vs ++ [v]) = _
    rw [eraRowsQ_snoc l vs z v (by simpa using h)]; rfl
theorem eraRowsQ_at : ∀ (l : List ZnT') (vs : List Value) (i : Nat) (z : ZnT') (v : Value), l[i]? = some z → vs[i]? = some v → (eraRowsQ l vs)[i]? = some (eraRowQ z v)
  | [], vs, i, z, v, h, _ => by simp at h
  | y :: l, [], i, z, v, _, h => by simp at h
  | y :: l, x :: vs, 0, z, v, h, h2 => by simp at h h2; subst h h2; rfl
  | y :: l, x :: vs, i + 1, z, v, h, h2 => by
    have := eraRowsQ_at l vs i z v (by simpa using h) (by simpa using h2)
    simpa [eraRowsQ] using this
/-- all rows: rules, links, zones, the eras of each zone. -/
def rowsQ (R : List RuleT) (Z : List ZnT') (L : List (ByteArray × ByteArray)) (xr xl xz : Value) (xs : List Value) : List PRow :=
  [⟨71, 11, xr, R.length, ruleXs R⟩, ⟨81, 2, xl, L.length, linkXs L⟩, ⟨74, 2, xz, Z.length, zoneXs Z xs⟩] ++ eraRowsQ Z xs
/-- the source so far; M: the rows of what is begun besides. -/
structure QM (w : World) (xb B : Nat) (R : List RuleT) (Z : List ZnT') (L : List (ByteArray × ByteArray)) (xr xl xz : Value) (xs : List Value) (M : List PRow) (V : World) : Prop where
  low : Below w.heap.size w V
  box : Bx V xb [xr, xz, xl]
  fam : Fam B V (rowsQ R Z L xr xl xz xs ++ M)
  len : xs.length = Z.length
  wx : w.heap.size ≤ xb
  xB : xb < B
  BV : B ≤ V.heap.size

section
variable {w : World} {xb B : Nat} {R : List RuleT} {Z : List ZnT'} {L : List (ByteArray × ByteArray)} {xr xl xz : Value} {xs : List Value} {M : List PRow} {V V' : World} {ve : Value} {E : List EraT}
theorem QM.wB (h : QM w xb B R Z L xr xl xz xs M V) : w.heap.size ≤ B := by have := h.wx; have := h.xB; omega
theorem QM.below (h : QM w xb B R Z L xr xl xz xs M V) (hb : Below V.heap.size V V') : QM w xb B R Z L xr xl xz xs M V' :=
  ⟨h.low.trans (hb.mono h.low.size), h.box.below hb, h.fam.below hb, h.len, h.wx, h.xB, Nat.le_trans h.BV hb.size⟩
theorem QM.drew (h : QM w xb B R Z L xr xl xz xs M V) : QM w xb B R Z L xr xl xz xs M V.drew := ⟨h.low.drew, h.box, h.fam, h.len, h.wx, h.xB, h.BV⟩
theorem QM.getR (h : QM w xb B R Z L xr xl xz xs M V) : V.ownsRow B 71 11 xr R.length (ruleXs R) := h.fam.get 0 rfl
theorem QM.getL (h : QM w xb B R Z L xr xl xz xs M V) : V.ownsRow B 81 2 xl L.length (linkXs L) := h.fam.get 1 rfl
theorem QM.getZ (h : QM w xb B R Z L xr xl xz xs M V) : V.ownsRow B 74 2 xz Z.length (zoneXs Z xs) := h.fam.get 2 rfl
theorem QM.grownLow (h : QM w xb B R Z L xr xl xz xs M V) {row : Option Nat} (hg : V.grownBy V' row) (hr : ∀ c, row = some c → B ≤ c) : Below w.heap.size w V' :=
  ⟨hg.os.trans h.low.os, hg.tape.trans h.low.tape, hg.output.trans h.low.output, Nat.le_trans h.low.size hg.size, fun c hc => (hg.block c (by have := h.low.size; omega) (fun e => by have := hr c e.symm; have := h.wB; omega)).trans (h.low.block c hc)⟩
theorem QM.grownBox (h : QM w xb B R Z L xr xl xz xs M V) {row : Option Nat} (hg : V.grownBy V' row) (hr : ∀ c, row = some c → B ≤ c) : Bx V' xb [xr, xz, xl] :=
  bx_growP h.box hg (fun e => by have := hr xb e; have := h.xB; omega)
/-- row i has grown, and cell k of the block says so. -/
theorem QM.grown (h : QM w xb B R Z L xr xl xz xs M V) {K : List PRow} (hK : rowsQ R Z L xr xl xz xs ++ M = K) (i k : Nat) {r : PRow} (hi : K[i]? = some r) {v' : Value} {n' : Nat} {xs' : List Value} (hgr : V.grownBy V' r.v.ownBlock)
    (hnew : ∀ c, v'.ownBlock = some c → r.v.ownBlock = some c ∨ c = V.heap.size) (hown : V'.ownsRow B r.t r.z v' n' xs') (hk : k < 3) :
    Below w.heap.size w (V'.setCell ⟨xb, k, none⟩ v') ∧ Bx (V'.setCell ⟨xb, k, none⟩ v') xb ([xr, xz, xl].set k v') ∧ Fam B (V'.setCell ⟨xb, k, none⟩ v') (K.set i ⟨r.t, r.z, v', n', xs'⟩) ∧ B ≤ (V'.setCell ⟨xb, k, none⟩ v').heap.size := by
  subst hK
  have hr : ∀ c, r.v.ownBlock = some c → B ≤ c := fun c hc => (h.fam.lt (List.mem_of_getElem? hi) hc).1
  have hs : ∀ c, c ≠ xb → (V'.setCell ⟨xb, k, none⟩ v').heap[c]? = V'.heap[c]? := fun c hc => heap_setCell_other V' ⟨xb, k, none⟩ c v' (fun e => hc e)
  have hsz : (V'.setCell ⟨xb, k, none⟩ v').heap.size = V'.heap.size := by simp
  refine ⟨(h.grownLow hgr hr).setCell (p := ⟨xb, k, none⟩) h.wx v', (h.grownBox hgr hr).set1 k v' (by simpa using hk), ?_, by rw [hsz]; exact Nat.le_trans h.BV hgr.size⟩
  exact (h.fam.grow i hi hgr hnew hown).keep fun c h1 h2 _ => hs c (by have := h.xB; omega)
theorem QM.ruled (h : QM w xb B R Z L xr xl xz xs M V) (r : RuleT) {v' : Value} (hgr : V.grownBy V' xr.ownBlock) (hnew : ∀ c, v'.ownBlock = some c → xr.ownBlock = some c ∨ c = V.heap.size)
    (hown : V'.ownsRow B 71 11 v' (R.length + 1) (ruleXs R ++ r.cs)) : QM w xb B (R ++ [r]) Z L v' xl xz xs M (V'.setCell ⟨xb, 0, none⟩ v') := by
  obtain ⟨a, b, d, e⟩ := h.grown rfl 0 0 rfl hgr hnew hown (by decide)
  refine ⟨a, b, ?_, h.len, h.wx, h.xB, e⟩
  have : rowsQ (R ++ [r]) Z L v' xl xz xs ++ M = (rowsQ R Z L xr xl xz xs ++ M).set 0 ⟨71, 11, v', R.length + 1, ruleXs R ++ r.cs⟩ := by
    unfold rowsQ; rw [ruleXs_snoc, List.length_append]; rfl
  rw [this]; exact d
theorem QM.linked (h : QM w xb B R Z L xr xl xz xs M V) (r : ByteArray × ByteArray) {v' : Value} (hgr : V.grownBy V' xl.ownBlock) (hnew : ∀ c, v'.ownBlock = some c → xl.ownBlock = some c ∨ c = V.heap.size)
    (hown : V'.ownsRow B 81 2 v' (L.length + 1) (linkXs L ++ [.string r.1, .string r.2])) : QM w xb B R Z (L ++ [r]) xr v' xz xs M (V'.setCell ⟨xb, 2, none⟩ v') := by
  obtain ⟨a, b, d, e⟩ := h.grown rfl 1 2 rfl hgr hnew hown (by decide)
  refine ⟨a, b, ?_, h.len, h.wx, h.xB, e⟩
  have : rowsQ R Z (L ++ [r]) xr v' xz xs ++ M = (rowsQ R Z L xr xl xz xs ++ M).set 1 ⟨81, 2, v', L.length + 1, linkXs L ++ [.string r.1, .string r.2]⟩ := by
    unfold rowsQ; rw [linkXs_snoc, List.length_append]; rfl
  rw [this]; exact d
/-- a zone is begun: a row of eras, of none. -/
theorem QM.begun (h : QM w xb B R Z L xr xl xz xs [] V) : QM w xb B R Z L xr xl xz xs [PRow.new 78 11] V :=
  ⟨h.low, h.box, by have := h.fam.push 78 11; rw [List.append_nil] at this; exact this, h.len, h.wx, h.xB, h.BV⟩
theorem famEra {B0 : Nat} {W : World} {S : PSt} {vr vl ve vz : Value} {vs : List Value} (h : Fam B0 W (rowsP S vr vl ve vz vs)) {i : Nat} {z : ZnT'} {v : Value} (hz : S.zones[i]? = some z) (hv : vs[i]? = some v) : W.ownsRow B0 94 11 v z.2.length (eraXs z.2) :=
  h.get (4 + i) (r := eraRow z v) (by unfold rowsP; rw [List.getElem?_append_right (by simp)]; simp only [List.length_cons, List.length_nil]; rw [show 4 + i - (0 + 1 + 1 + 1 + 1) = i by omega]; exact eraRows_at _ _ _ _ _ hz hv)
theorem QM.getM {r : PRow} (h : QM w xb B R Z L xr xl xz xs [r] V) : V.ownsRow B r.t r.z r.v r.n r.xs := h.fam.1 r (by simp)
/-- the row of eras that is begun has grown; block zb, which is none of the rows', may have been written. -/
theorem QM.grewE (h : QM w xb B R Z L xr xl xz xs [⟨78, 11, ve, E.length, eraXs E⟩] V) (e : EraT) {v' : Value} (hgr : V.grownBy V' ve.ownBlock) (hnew : ∀ c, v'.ownBlock = some c → ve.ownBlock = some c ∨ c = V.heap.size)
    (hown : V'.ownsRow B 78 11 v' (E.length + 1) (eraXs E ++ e.cs)) {zb k : Nat} (hzw : w.heap.size ≤ zb) (hzx : zb ≠ xb) (hzn : ∀ r ∈ rowsQ R Z L xr xl xz xs, ∀ c, r.v.ownBlock = some c → c ≠ zb) (hze : ∀ c, v'.ownBlock = some c → c ≠ zb) (u : Value) :
    QM w xb B R Z L xr xl xz xs [⟨78, 11, v', (E ++ [e]).length, eraXs (E ++ [e])⟩] (V'.setCell ⟨zb, k, none⟩ u) := by
  have hn : (rowsQ R Z L xr xl xz xs ++ [⟨78, 11, ve, E.length, eraXs E⟩])[(rowsQ R Z L xr xl xz xs).length]? = some ⟨78, 11, ve, E.length, eraXs E⟩ := by simp
  have hr : ∀ c, ve.ownBlock = some c → B ≤ c := fun c hc => (h.fam.lt (List.mem_of_getElem? hn) hc).1
  have hs : ∀ c, c ≠ zb → (V'.setCell ⟨zb, k, none⟩ u).heap[c]? = V'.heap[c]? := fun c hc => heap_setCell_other V' ⟨zb, k, none⟩ c u (fun e => hc e)
  have hsz : (V'.setCell ⟨zb, k, none⟩ u).heap.size = V'.heap.size := by simp
  have F1 := h.fam.grow _ hn hgr hnew hown
  rw [List.set_append_right _ _ (Nat.le_refl _), Nat.sub_self, List.set_cons_zero] at F1
  have hb := h.grownBox hgr hr
  refine ⟨(h.grownLow hgr hr).setCell (p := ⟨zb, k, none⟩) hzw u, hb.set9 hzx u, ?_, h.len, h.wx, h.xB, by rw [hsz]; exact Nat.le_trans h.BV hgr.size⟩
  rw [eraXs_snoc, List.length_append]
  refine F1.keep fun c h1 h2 h3 => hs c ?_
  obtain ⟨r, hrm, hc⟩ := h3
  rcases List.mem_append.1 hrm with hrm | hrm
  · exact hzn r hrm c hc
  · rw [List.mem_singleton.1 hrm] at hc; exact hze c hc
/-- a block that is none of the rows' is written whole. -/
theorem QM.off (h : QM w xb B R Z L xr xl xz xs M V) {c : Nat} (hcw : w.heap.size ≤ c) (hcx : xb ≠ c) (hcn : ∀ r ∈ rowsQ R Z L xr xl xz xs ++ M, ∀ k, r.v.ownBlock = some k → k ≠ c) (vs : List Value) : QM w xb B R Z L xr xl xz xs M (V.setCells c 0 vs) :=
  ⟨below_setCells hcw vs V 0 h.low, h.box.setOther hcx vs, h.fam.keep fun k _ _ ⟨r, hr, e⟩ => setCells_heap c vs V 0 k (hcn r hr k e), h.len, h.wx, h.xB, by rw [setCells_size]; exact h.BV⟩
/-- the zone that was begun is one of the zones. -/
theorem QM.zoned (h : QM w xb B R Z L xr xl xz xs [⟨78, 11, ve, E.length, eraXs E⟩] V) (nm : ByteArray) {v' : Value} (hgr : V.grownBy V' xz.ownBlock) (hnew : ∀ c, v'.ownBlock = some c → xz.ownBlock = some c ∨ c = V.heap.size)
    (hown : V'.ownsRow B 74 2 v' (Z.length + 1) (zoneXs Z xs ++ [.string nm, ve])) : QM w xb B R (Z ++ [(nm, E)]) L xr xl v' (xs ++ [ve]) [] (V'.setCell ⟨xb, 1, none⟩ v') := by
  obtain ⟨a, b, d, e⟩ := h.grown rfl 2 1 rfl hgr hnew hown (by decide)
  refine ⟨a, b, ?_, by simp [h.len], h.wx, h.xB, e⟩
  have : rowsQ R (Z ++ [(nm, E)]) L xr xl v' (xs ++ [ve]) ++ [] = (rowsQ R Z L xr xl xz xs ++ ([⟨78, 11, ve, E.length, eraXs E⟩] : List PRow)).set 2 ⟨74, 2, v', Z.length + 1, zoneXs Z xs ++ [.string nm, ve]⟩ := by
    unfold rowsQ; rw [zoneXs_snoc _ _ _ _ h.len, eraRowsQ_snoc _ _ _ _ h.len, List.length_append, List.append_nil]; rfl
  rw [this]; exact d
end

end Go.Proofs.YtgnfkkcagbbhmaaGreatDoor
