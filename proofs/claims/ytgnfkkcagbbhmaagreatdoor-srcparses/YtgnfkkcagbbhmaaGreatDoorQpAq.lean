/- The reference's parser of a source in memory: its block, its rows, each apart; what appends and stores leave of it. -/
import Derived.Test.YtgnfkkcagbbhmaaGreatDoorPmQq
namespace Go.Proofs.YtgnfkkcagbbhmaaGreatDoor
open Go.RowKit
set_option linter.unusedVariables false

def atXs : List (Int × ByteArray) → List Value
  | [] => []
  | r :: l => .int .i64 r.1 :: atXs l
theorem atXs_snoc : ∀ (l : List (Int × ByteArray)) (r : Int × ByteArray), atXs (l ++ [r]) = atXs l ++ [.int .i64 r.1]
  | [], r => by simp [atXs]
  | x :: l, r => by rw [List.cons_append, atXs, atXs_snoc l r, atXs]; rfl
theorem atXs_at : ∀ (l : List (Int × ByteArray)) (i : Nat) (z : Int × ByteArray), l[i]? = some z → (atXs l)[i]? = some (.int .i64 z.1)
  | [], i, z, h => by simp at h
  | y :: l, 0, z, h => by simp at h; subst h; rfl
  | y :: l, i + 1, z, h => by simpa [atXs] using atXs_at l i z (by simpa using h)
theorem eraRowsQ_len : ∀ (l : List ZnT') (vs : List Value), vs.length = l.length → (eraRowsQ l vs).length = l.length
  | [], [], _ => rfl
  | [], x :: vs, h => by simp at h
  | y :: l, [], h => by simp at h
  | y :: l, x :: vs, h => by simp [eraRowsQ, eraRowsQ_len l vs (by simpa using h)]

/-- all rows of the parser. -/
def rowsN (S : PSt) (vr vl ve vz : Value) (vs : List Value) : List PRow :=
  ⟨3, 1, ve, S.eras.length, atXs S.eras⟩ :: rowsQ S.rules S.zones S.links vr vl vz vs
/-- the parser's cells. -/
def boxN (vr vl ve vz : Value) (op : Bool) : List Value := [vr, vz, vl, ve, .bool op]
structure PN (w : World) (g B : Nat) (S : PSt) (vr vl ve vz : Value) (vs : List Value) (V : World) : Prop where
  low : Below w.heap.size w V
  box : Bx V g (boxN vr vl ve vz S.op)
  fam : Fam B V (rowsN S vr vl ve vz vs)
  len : vs.length = S.zones.length
  wg : w.heap.size ≤ g
  gB : g < B
  BV : B ≤ V.heap.size

section
variable {w : World} {g B : Nat} {S : PSt} {vr vl ve vz : Value} {vs : List Value} {V V' : World}
theorem PN.lt (h : PN w g B S vr vl ve vz vs V) : g < V.heap.size := h.box.1
theorem PN.wB (h : PN w g B S vr vl ve vz vs V) : w.heap.size ≤ B := by have := h.wg; have := h.gB; omega
theorem PN.below (h : PN w g B S vr vl ve vz vs V) (hb : Below V.heap.size V V') : PN w g B S vr vl ve vz vs V' :=
  ⟨h.low.trans (hb.mono h.low.size), h.box.below hb, h.fam.below hb, h.len, h.wg, h.gB, Nat.le_trans h.BV hb.size⟩
theorem PN.drew (h : PN w g B S vr vl ve vz vs V) : PN w g B S vr vl ve vz vs V.drew := ⟨h.low.drew, h.box, h.fam, h.len, h.wg, h.gB, h.BV⟩
/-- row i has grown, and cell k of the parser's block says so. -/
theorem PN.grown (h : PN w g B S vr vl ve vz vs V) {L : List PRow} (hL : rowsN S vr vl ve vz vs = L) (i k : Nat) {r : PRow} (hi : L[i]? = some r) {v' : Value} {n' : Nat} {xs' : List Value} (hgr : V.grownBy V' r.v.ownBlock)
    (hnew : ∀ c, v'.ownBlock = some c → r.v.ownBlock = some c ∨ c = V.heap.size) (hown : V'.ownsRow B r.t r.z v' n' xs') (hk : k < 5) :
    Below w.heap.size w (V'.setCell ⟨g, k, none⟩ v') ∧ Bx (V'.setCell ⟨g, k, none⟩ v') g ((boxN vr vl ve vz S.op).set k v') ∧ Fam B (V'.setCell ⟨g, k, none⟩ v') (L.set i ⟨r.t, r.z, v', n', xs'⟩) ∧ B ≤ (V'.setCell ⟨g, k, none⟩ v').heap.size := by
  subst hL
  have hr : ∀ c, r.v.ownBlock = some c → B ≤ c ∧ c < V.heap.size := fun c hc => h.fam.lt (List.mem_of_getElem? hi) hc
  have hs : ∀ c, c ≠ g → (V'.setCell ⟨g, k, none⟩ v').heap[c]? = V'.heap[c]? := fun c hc => heap_setCell_other V' ⟨g, k, none⟩ c v' (fun e => hc e)
  have hsz : (V'.setCell ⟨g, k, none⟩ v').heap.size = V'.heap.size := by simp
  have hbx : Bx V' g (boxN vr vl ve vz S.op) := ⟨Nat.lt_of_lt_of_le h.lt hgr.size, fun j v e => by
     have hb := hgr.block g h.lt (fun e => by have := (hr g e.symm).1; have := h.gB; omega)
     exact ⟨(World.cell?_of_block (w := V) (a := ⟨g, j, none⟩) hb).trans (h.box.2 j v e).1, (World.frozen?_of_block (w := V) (a := ⟨g, j, none⟩) hb).trans (h.box.2 j v e).2⟩⟩
  have hlow : Below w.heap.size w V' := ⟨hgr.os.trans h.low.os, hgr.tape.trans h.low.tape, hgr.output.trans h.low.output, Nat.le_trans h.low.size hgr.size, fun c hc => (hgr.block c (by have := h.low.size; omega) (fun e => by have := (hr c e.symm).1; have := h.wB; omega)).trans (h.low.block c hc)⟩
  refine ⟨hlow.setCell (p := ⟨g, k, none⟩) h.wg v', hbx.set1 k v' (by simpa [boxN] using hk), ?_, by rw [hsz]; exact Nat.le_trans h.BV hgr.size⟩
  · exact (h.fam.grow i hi hgr hnew hown).keep fun c h1 h2 _ => hs c (by have := h.gB; omega)

theorem PN.ruled (h : PN w g B S vr vl ve vz vs V) (r : RuleT) {v' : Value} (hgr : V.grownBy V' vr.ownBlock) (hnew : ∀ c, v'.ownBlock = some c → vr.ownBlock = some c ∨ c = V.heap.size)
    (hown : V'.ownsRow B 71 11 v' (S.rules.length + 1) (ruleXs S.rules ++ r.cs)) : PN w g B { S with rules := S.rules ++ [r] } v' vl ve vz vs (V'.setCell ⟨g, 0, none⟩ v') := by
  obtain ⟨a, b, d, e⟩ := h.grown rfl 1 0 rfl hgr hnew hown (by decide)
  refine ⟨a, b, ?_, h.len, h.wg, h.gB, e⟩
  have : rowsN { S with rules := S.rules ++ [r] } v' vl ve vz vs = (rowsN S vr vl ve vz vs).set 1 ⟨71, 11, v', S.rules.length + 1, ruleXs S.rules ++ r.cs⟩ := by
    unfold rowsN rowsQ; dsimp only; rw [ruleXs_snoc, List.length_append]; rfl
  rw [this]; exact d
theorem PN.linked (h : PN w g B S vr vl ve vz vs V) (r : ByteArray × ByteArray) {v' : Value} (hgr : V.grownBy V' vl.ownBlock) (hnew : ∀ c, v'.ownBlock = some c → vl.ownBlock = some c ∨ c = V.heap.size)
    (hown : V'.ownsRow B 81 2 v' (S.links.length + 1) (linkXs S.links ++ [.string r.1, .string r.2])) : PN w g B { S with links := S.links ++ [r] } vr v' ve vz vs (V'.setCell ⟨g, 2, none⟩ v') := by
  obtain ⟨a, b, d, e⟩ := h.grown rfl 2 2 rfl hgr hnew hown (by decide)
  refine ⟨a, b, ?_, h.len, h.wg, h.gB, e⟩
  have : rowsN { S with links := S.links ++ [r] } vr v' ve vz vs = (rowsN S vr vl ve vz vs).set 2 ⟨81, 2, v', S.links.length + 1, linkXs S.links ++ [.string r.1, .string r.2]⟩ := by
    unfold rowsN rowsQ; dsimp only; rw [linkXs_snoc, List.length_append]; rfl
  rw [this]; exact d
theorem PN.lined (h : PN w g B S vr vl ve vz vs V) (r : Int × ByteArray) {v' : Value} (hgr : V.grownBy V' ve.ownBlock) (hnew : ∀ c, v'.ownBlock = some c → ve.ownBlock = some c ∨ c = V.heap.size)
    (hown : V'.ownsRow B 3 1 v' (S.eras.length + 1) (atXs S.eras ++ [.int .i64 r.1])) : PN w g B { S with eras := S.eras ++ [r] } vr vl v' vz vs (V'.setCell ⟨g, 3, none⟩ v') := by
  obtain ⟨a, b, d, e⟩ := h.grown rfl 0 3 rfl hgr hnew hown (by decide)
  refine ⟨a, b, ?_, h.len, h.wg, h.gB, e⟩
  have : rowsN { S with eras := S.eras ++ [r] } vr vl v' vz vs = (rowsN S vr vl ve vz vs).set 0 ⟨3, 1, v', S.eras.length + 1, atXs S.eras ++ [.int .i64 r.1]⟩ := by
    unfold rowsN rowsQ; dsimp only; rw [atXs_snoc, List.length_append]; rfl
  rw [this]; exact d
/-- a zone more, of no eras. -/
theorem PN.zoned (h : PN w g B S vr vl ve vz vs V) (nm : ByteArray) {v' : Value} (hgr : V.grownBy V' vz.ownBlock) (hnew : ∀ c, v'.ownBlock = some c → vz.ownBlock = some c ∨ c = V.heap.size)
    (hown : V'.ownsRow B 74 2 v' (S.zones.length + 1) (zoneXs S.zones vs ++ [.string nm, .slice none 0 0])) : PN w g B { S with zones := S.zones ++ [(nm, [])] } vr vl ve v' (vs ++ [.slice none 0 0]) (V'.setCell ⟨g, 1, none⟩ v') := by
  obtain ⟨a, b, d, e⟩ := h.grown rfl 3 1 rfl hgr hnew hown (by decide)
  refine ⟨a, b, ?_, by simp [h.len], h.wg, h.gB, e⟩
  have : rowsN { S with zones := S.zones ++ [(nm, [])] } vr vl ve v' (vs ++ [.slice none 0 0]) = (rowsN S vr vl ve vz vs).set 3 ⟨74, 2, v', S.zones.length + 1, zoneXs S.zones vs ++ [.string nm, .slice none 0 0]⟩ ++ [PRow.new 78 11] := by
    unfold rowsN rowsQ; dsimp only; rw [zoneXs_snoc _ _ _ _ h.len, eraRowsQ_snoc _ _ _ _ h.len, List.length_append]; rfl
  rw [this]; exact d.push _ _
/-- an era more of the last zone. -/
theorem PN.erad (h : PN w g B S vr vl ve vz vs V) {l : List ZnT'} {z : ZnT'} (hS : S.zones = l ++ [z]) {vq : List Value} {v : Value} (hvs : vs = vq ++ [v]) (e : EraT) {v' : Value} (hgr : V.grownBy V' v.ownBlock) (hnew : ∀ c, v'.ownBlock = some c → v.ownBlock = some c ∨ c = V.heap.size)
    (hown : V'.ownsRow B 78 11 v' (z.2.length + 1) (eraXs z.2 ++ e.cs)) {zb zc : Nat} (hz : vz = .slice (some ⟨zb, 0, none⟩) S.zones.length zc) :
    PN w g B { S with zones := addE S.zones e } vr vl ve vz (vq ++ [v']) (V'.setCell ⟨zb, l.length * 2 + 1, none⟩ v') := by
  have hlen : vq.length = l.length := by have := h.len; rw [hS, hvs] at this; simpa using this
  have hz4 : (rowsN S vr vl ve vz vs)[4 + l.length]? = some (eraRowQ z v) := by
    unfold rowsN rowsQ
    rw [show 4 + l.length = l.length + 1 + 1 + 1 + 1 by omega]
    simp only [List.getElem?_cons_succ, List.cons_append, List.nil_append]
    rw [hS, hvs, eraRowsQ_snoc _ _ _ _ hlen]
    rw [ List.getElem?_append_right (by rw [eraRowsQ_len _ _ hlen]; omega), eraRowsQ_len _ _ hlen, Nat.sub_self]; rfl
  have hz3 : (rowsN S vr vl ve vz vs)[3]? = some ⟨74, 2, vz, S.zones.length, zoneXs S.zones vs⟩ := rfl
  have hr : ∀ c, v.ownBlock = some c → B ≤ c ∧ c < V.heap.size := fun c hc => h.fam.lt (List.mem_of_getElem? hz4) hc
  have hzb : B ≤ zb ∧ zb < V.heap.size := h.fam.lt (List.mem_of_getElem? hz3) (by rw [hz]; rfl)
  have hvz : v.ownBlock ≠ some zb := fun q => h.fam.2 (4 + l.length) 3 _ _ hz4 hz3 (by omega) zb q (by rw [hz]; rfl)
  have F1 := h.fam.grow (4 + l.length) hz4 hgr hnew hown
  have hs : ∀ c, c ≠ zb → (V'.setCell ⟨zb, l.length * 2 + 1, none⟩ v').heap[c]? = V'.heap[c]? := fun c hc => heap_setCell_other V' ⟨zb, l.length * 2 + 1, none⟩ c v' (fun e => hc e)
  have F2 := F1.put (g := zb) (cap := zc) 3 (r := ⟨74, 2, vz, S.zones.length, zoneXs S.zones vs⟩) (by rw [List.getElem?_set_ne (by omega)]; rfl) hz (l.length * 2 + 1) v'
  have hgl := h.gB
  have hgb := hgr.block g h.lt (fun e => by have := (hr g e.symm).1; omega)
  have hsz : (V'.setCell ⟨zb, l.length * 2 + 1, none⟩ v').heap.size = V'.heap.size := by simp
  refine ⟨?_, ?_, ?_, ?_, h.wg, h.gB, by rw [hsz]; exact Nat.le_trans h.BV hgr.size⟩
  · refine Below.setCell ⟨hgr.os.trans h.low.os, hgr.tape.trans h.low.tape, hgr.output.trans h.low.output, Nat.le_trans h.low.size hgr.size, fun c hc => (hgr.block c (by have := h.low.size; omega) (fun e => by have := (hr c e.symm).1; have := h.wB; omega)).trans (h.low.block c hc)⟩ (p := ⟨zb, _, none⟩) (by have := h.wB; show _ ≤ zb; omega) v'
  · refine ⟨by rw [hsz]; exact Nat.lt_of_lt_of_le h.lt hgr.size, fun j u q => ?_⟩
    have hb := (hs g (by omega)).trans hgb
    exact ⟨(World.cell?_of_block (w := V) (a := ⟨g, j, none⟩) hb).trans (h.box.2 j u q).1, (World.frozen?_of_block (w := V) (a := ⟨g, j, none⟩) hb).trans (h.box.2 j u q).2⟩
  · have : rowsN { S with zones := addE S.zones e } vr vl ve vz (vq ++ [v']) = ((rowsN S vr vl ve vz vs).set (4 + l.length) ⟨(eraRowQ z v).t, (eraRowQ z v).z, v', z.2.length + 1, eraXs z.2 ++ e.cs⟩).set 3 ⟨74, 2, vz, S.zones.length, (zoneXs S.zones vs).set (l.length * 2 + 1) v'⟩ := by
      unfold rowsN rowsQ; dsimp only
      rw [hS, hvs, addE_snoc, zoneXs_snoc _ _ _ _ hlen, zoneXs_snoc _ _ _ _ hlen, eraRowsQ_snoc _ _ _ _ hlen, eraRowsQ_snoc _ _ _ _ hlen]
      have e1 : (zoneXs l vq ++ [.string z.1, v]).set (l.length * 2 + 1) v' = zoneXs l vq ++ [.string z.1, v'] := by
        rw [List.set_append_right _ _ (by rw [zoneXs_len _ _ hlen]; omega), zoneXs_len _ _ hlen, show l.length * 2 + 1 - l.length * 2 = 1 by omega]; rfl
      rw [e1, show 4 + l.length = l.length + 1 + 1 + 1 + 1 by omega]
      simp only [List.cons_append, List.nil_append, List.set_cons_succ, List.set_cons_zero, List.length_append, List.length_singleton]
      rw [List.set_append_right _ _ (by rw [eraRowsQ_len _ _ hlen]; omega), eraRowsQ_len _ _ hlen, Nat.sub_self]
      simp only [eraRowQ, List.set_cons_zero, eraXs_snoc, List.length_append, List.length_singleton]
    rw [this]; exact F2
  · rw [hS, addE_snoc]; simp [hlen]
/-- whether a line must follow. -/
theorem PN.opened (h : PN w g B S vr vl ve vz vs V) (b : Bool) : PN w g B { S with op := b } vr vl ve vz vs (V.setCell ⟨g, 4, none⟩ (.bool b)) := by
  have hs : ∀ c, c ≠ g → (V.setCell ⟨g, 4, none⟩ (.bool b)).heap[c]? = V.heap[c]? := fun c hc => heap_setCell_other V ⟨g, 4, none⟩ c _ (fun e => hc e)
  have hsz : (V.setCell ⟨g, 4, none⟩ (.bool b)).heap.size = V.heap.size := by simp
  exact ⟨h.low.setCell (p := ⟨g, 4, none⟩) h.wg _, h.box.set1 4 (.bool b) (by simp [boxN]), h.fam.keep fun c h1 h2 _ => hs c (by have := h.gB; omega), h.len, h.wg, h.gB, by rw [hsz]; exact h.BV⟩
end

end Go.Proofs.YtgnfkkcagbbhmaaGreatDoor
