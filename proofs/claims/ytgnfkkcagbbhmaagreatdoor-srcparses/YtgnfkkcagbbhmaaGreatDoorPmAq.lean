/- The parser of a source in memory: its block, its map of counts, its rows, each apart; what appends, stores and updates leave of it. -/
import Derived.Test.YtgnfkkcagbbhmaaGreatDoorPmMq
import Derived.Test.YtgnfkkcagbbhmaaGreatDoorPmFq
import Derived.Test.YtgnfkkcagbbhmaaGreatDoorPmTq
import Derived.Test.YtgnfkkcagbbhmaaGreatDoorBxBq
namespace Go.Proofs.YtgnfkkcagbbhmaaGreatDoor
open Go.RowKit
set_option linter.unusedVariables false

def ruleXs : List RuleT → List Value
  | [] => []
  | r :: l => r.cs ++ ruleXs l
theorem ruleXs_snoc : ∀ (l : List RuleT) (r : RuleT), ruleXs (l ++ [r]) = ruleXs l ++ r.cs
  | [], r => by simp [ruleXs]
  | x :: l, r => by rw [List.cons_append, ruleXs, ruleXs_snoc l r, ruleXs, List.append_assoc]
def eraXs : List EraT → List Value
  | [] => []
  | r :: l => r.cs ++ eraXs l
theorem eraXs_snoc : ∀ (l : List EraT) (r : EraT), eraXs (l ++ [r]) = eraXs l ++ r.cs
  | [], r => by simp [eraXs]
  | x :: l, r => by rw [List.cons_append, eraXs, eraXs_snoc l r, eraXs, List.append_assoc]
def linkXs : List (ByteArray × ByteArray) → List Value
  | [] => []
  | r :: l => .string r.1 :: .string r.2 :: linkXs l
theorem linkXs_snoc : ∀ (l : List (ByteArray × ByteArray)) (r : ByteArray × ByteArray), linkXs (l ++ [r]) = linkXs l ++ [.string r.1, .string r.2]
  | [], r => by simp [linkXs]
  | x :: l, r => by rw [List.cons_append, linkXs, linkXs_snoc l r, linkXs]; rfl
def lineXs : List (Int × ByteArray) → List Value
  | [] => []
  | r :: l => .int .i64 r.1 :: .string r.2 :: lineXs l
theorem lineXs_snoc : ∀ (l : List (Int × ByteArray)) (r : Int × ByteArray), lineXs (l ++ [r]) = lineXs l ++ [.int .i64 r.1, .string r.2]
  | [], r => by simp [lineXs]
  | x :: l, r => by rw [List.cons_append, lineXs, lineXs_snoc l r, lineXs]; rfl
abbrev ZnT' := ByteArray × List EraT
def zoneXs : List ZnT' → List Value → List Value
  | z :: l, v :: vs => .string z.1 :: v :: zoneXs l vs
  | _, _ => []
def eraRow (z : ZnT') (v : Value) : PRow := ⟨94, 11, v, z.2.length, eraXs z.2⟩
def eraRows : List ZnT' → List Value → List PRow
  | z :: l, v :: vs => eraRow z v :: eraRows l vs
  | _, _ => []
theorem zoneXs_snoc : ∀ (l : List ZnT') (vs : List Value) (z : ZnT') (v : Value), vs.length = l.length → zoneXs (l ++ [z]) (vs ++ [v]) = zoneXs l vs ++ [.string z.1, v]
  | [], [], z, v, _ => rfl
  | [], x :: vs, z, v, h => by simp at h
  | y :: l, [], z, v, h => by simp at h
  | y :: l, x :: vs, z, v, h => by
    show _ :: _ :: zoneXs (l ++ [z]) (vs ++ [v]) = _
    rw [zoneXs_snoc l vs z v (by simpa using h)]; rfl
theorem eraRows_snoc : ∀ (l : List ZnT') (vs : List Value) (z : ZnT') (v : Value), vs.length = l.length → eraRows (l ++ [z]) (vs ++ [v]) = eraRows l vs ++ [eraRow z v]
  | [], [], z, v, _ => rfl
  | [], x :: vs, z, v, h => by simp at h
  | y :: l, [], z, v, h => by simp at h
  | y :: l, x :: vs, z, v, h => by
    show _ :: eraRows (l ++ [z]) (vs ++ [v]) = _
    rw [eraRows_snoc l vs z v (by simpa using h)]; rfl
theorem zoneXs_len : ∀ (l : List ZnT') (vs : List Value), vs.length = l.length → (zoneXs l vs).length = l.length * 2
  | [], [], _ => rfl
  | [], x :: vs, h => by simp at h
  | y :: l, [], h => by simp at h
  | y :: l, x :: vs, h => by simp [zoneXs, zoneXs_len l vs (by simpa using h)]; omega
theorem eraRows_len : ∀ (l : List ZnT') (vs : List Value), vs.length = l.length → (eraRows l vs).length = l.length
  | [], [], _ => rfl
  | [], x :: vs, h => by simp at h
  | y :: l, [], h => by simp at h
  | y :: l, x :: vs, h => by simp [eraRows, eraRows_len l vs (by simpa using h)]
theorem addE_snoc : ∀ (l : List ZnT') (z : ZnT') (e : EraT), addE (l ++ [z]) e = l ++ [(z.1, z.2 ++ [e])]
  | [], z, e => rfl
  | [x], z, e => rfl
  | x :: y :: l, z, e => by
    show x :: addE (y :: l ++ [z]) e = _
    rw [addE_snoc (y :: l) z e]; rfl

/-- all rows of the parser. -/
def rowsP (S : PSt) (vr vl ve vz : Value) (vs : List Value) : List PRow :=
  [⟨85, 11, vr, S.rules.length, ruleXs S.rules⟩, ⟨95, 2, vl, S.links.length, linkXs S.links⟩, ⟨118, 2, ve, S.eras.length, lineXs S.eras⟩, ⟨90, 2, vz, S.zones.length, zoneXs S.zones vs⟩] ++ eraRows S.zones vs
/-- the parser's cells. -/
def boxP (m : Nat) (vr vl ve vz : Value) (op : Bool) : List Value := [vr, vz, vl, .map (some m), ve, .bool op]
structure PM (w : World) (g m B : Nat) (S : PSt) (vr vl ve vz : Value) (vs : List Value) (V : World) : Prop where
  low : Below w.heap.size w V
  box : Bx V g (boxP m vr vl ve vz S.op)
  map : MapS V m S.dn S.cnt
  fam : Fam B V (rowsP S vr vl ve vz vs)
  len : vs.length = S.zones.length
  wg : w.heap.size ≤ g
  wm : w.heap.size ≤ m
  gB : g < B
  mB : m < B
  gm : g ≠ m
  BV : B ≤ V.heap.size

section
variable {w : World} {g m B : Nat} {S : PSt} {vr vl ve vz : Value} {vs : List Value} {V V' : World}
theorem PM.lt (h : PM w g m B S vr vl ve vz vs V) : g < V.heap.size := h.box.1
theorem PM.mlt (h : PM w g m B S vr vl ve vz vs V) : m < V.heap.size := h.map.lt
theorem PM.wB (h : PM w g m B S vr vl ve vz vs V) : w.heap.size ≤ B := by have := h.wg; have := h.gB; omega
theorem PM.below (h : PM w g m B S vr vl ve vz vs V) (hb : Below V.heap.size V V') : PM w g m B S vr vl ve vz vs V' :=
  ⟨h.low.trans (hb.mono h.low.size), h.box.below hb, h.map.same (hb.block _ h.mlt), h.fam.below hb, h.len, h.wg, h.wm, h.gB, h.mB, h.gm, Nat.le_trans h.BV hb.size⟩
theorem PM.drew (h : PM w g m B S vr vl ve vz vs V) : PM w g m B S vr vl ve vz vs V.drew := ⟨h.low.drew, h.box, h.map, h.fam, h.len, h.wg, h.wm, h.gB, h.mB, h.gm, h.BV⟩
/-- the map is written. -/
theorem PM.mapped (h : PM w g m B S vr vl ve vz vs V) {n' : Nat} {f' : ByteArray → Int} (hm : MapS V' m n' f') (hg : V.grownBy V' (some m)) : PM w g m B { S with dn := n', cnt := f' } vr vl ve vz vs V' :=
  ⟨⟨hg.os.trans h.low.os, hg.tape.trans h.low.tape, hg.output.trans h.low.output, Nat.le_trans h.low.size hg.size, fun k hk => (hg.block k (by have := h.low.size; omega) (fun e => by cases e; have := h.wm; omega)).trans (h.low.block k hk)⟩,
   ⟨Nat.lt_of_lt_of_le h.lt hg.size, fun i v e => by
     have hb := hg.block g h.lt (fun e => by cases e; exact h.gm rfl)
     exact ⟨(World.cell?_of_block (w := V) (a := ⟨g, i, none⟩) hb).trans (h.box.2 i v e).1, (World.frozen?_of_block (w := V) (a := ⟨g, i, none⟩) hb).trans (h.box.2 i v e).2⟩⟩,
   hm, h.fam.keep fun c h1 h2 _ => hg.block c h2 (fun e => by cases e; have := h.mB; omega), h.len, h.wg, h.wm, h.gB, h.mB, h.gm, Nat.le_trans h.BV hg.size⟩

/-- row i has grown, and cell k of the parser's block says so. -/
theorem PM.grown (h : PM w g m B S vr vl ve vz vs V) {L : List PRow} (hL : rowsP S vr vl ve vz vs = L) (i k : Nat) {r : PRow} (hi : L[i]? = some r) {v' : Value} {n' : Nat} {xs' : List Value} (hgr : V.grownBy V' r.v.ownBlock)
    (hnew : ∀ c, v'.ownBlock = some c → r.v.ownBlock = some c ∨ c = V.heap.size) (hown : V'.ownsRow B r.t r.z v' n' xs') (hk : k < 6) :
    Below w.heap.size w (V'.setCell ⟨g, k, none⟩ v') ∧ Bx (V'.setCell ⟨g, k, none⟩ v') g ((boxP m vr vl ve vz S.op).set k v') ∧ MapS (V'.setCell ⟨g, k, none⟩ v') m S.dn S.cnt ∧ Fam B (V'.setCell ⟨g, k, none⟩ v') (L.set i ⟨r.t, r.z, v', n', xs'⟩) ∧ B ≤ (V'.setCell ⟨g, k, none⟩ v').heap.size := by
  subst hL
  have hr : ∀ c, r.v.ownBlock = some c → B ≤ c ∧ c < V.heap.size := fun c hc => h.fam.lt (List.mem_of_getElem? hi) hc
  have hs : ∀ c, c ≠ g → (V'.setCell ⟨g, k, none⟩ v').heap[c]? = V'.heap[c]? := fun c hc => heap_setCell_other V' ⟨g, k, none⟩ c v' (fun e => hc e)
  have hsz : (V'.setCell ⟨g, k, none⟩ v').heap.size = V'.heap.size := by simp
  have hbx : Bx V' g (boxP m vr vl ve vz S.op) := ⟨Nat.lt_of_lt_of_le h.lt hgr.size, fun j v e => by
     have hb := hgr.block g h.lt (fun e => by have := (hr g e.symm).1; have := h.gB; omega)
     exact ⟨(World.cell?_of_block (w := V) (a := ⟨g, j, none⟩) hb).trans (h.box.2 j v e).1, (World.frozen?_of_block (w := V) (a := ⟨g, j, none⟩) hb).trans (h.box.2 j v e).2⟩⟩
  have hlow : Below w.heap.size w V' := ⟨hgr.os.trans h.low.os, hgr.tape.trans h.low.tape, hgr.output.trans h.low.output, Nat.le_trans h.low.size hgr.size, fun c hc => (hgr.block c (by have := h.low.size; omega) (fun e => by have := (hr c e.symm).1; have := h.wB; omega)).trans (h.low.block c hc)⟩
  refine ⟨hlow.setCell (p := ⟨g, k, none⟩) h.wg v', hbx.set1 k v' (by simpa [boxP] using hk), ?_, ?_, by rw [hsz]; exact Nat.le_trans h.BV hgr.size⟩
  · refine (h.map.kept hgr (fun e => ?_)).same (hs m (fun e => h.gm e.symm))
    have := (hr m e).1; have := h.mB; omega
  · exact (h.fam.grow i hi hgr hnew hown).keep fun c h1 h2 _ => hs c (by have := h.gB; omega)

theorem PM.ruled (h : PM w g m B S vr vl ve vz vs V) (r : RuleT) {v' : Value} (hgr : V.grownBy V' vr.ownBlock) (hnew : ∀ c, v'.ownBlock = some c → vr.ownBlock = some c ∨ c = V.heap.size)
    (hown : V'.ownsRow B 85 11 v' (S.rules.length + 1) (ruleXs S.rules ++ r.cs)) : PM w g m B { S with rules := S.rules ++ [r] } v' vl ve vz vs (V'.setCell ⟨g, 0, none⟩ v') := by
  obtain ⟨a, b, c, d, e⟩ := h.grown rfl 0 0 rfl hgr hnew hown (by decide)
  refine ⟨a, b, c, ?_, h.len, h.wg, h.wm, h.gB, h.mB, h.gm, e⟩
  have : rowsP { S with rules := S.rules ++ [r] } v' vl ve vz vs = (rowsP S vr vl ve vz vs).set 0 ⟨85, 11, v', S.rules.length + 1, ruleXs S.rules ++ r.cs⟩ := by
    unfold rowsP; dsimp only; rw [ruleXs_snoc, List.length_append]; rfl
  rw [this]; exact d
theorem PM.linked (h : PM w g m B S vr vl ve vz vs V) (r : ByteArray × ByteArray) {v' : Value} (hgr : V.grownBy V' vl.ownBlock) (hnew : ∀ c, v'.ownBlock = some c → vl.ownBlock = some c ∨ c = V.heap.size)
    (hown : V'.ownsRow B 95 2 v' (S.links.length + 1) (linkXs S.links ++ [.string r.1, .string r.2])) : PM w g m B { S with links := S.links ++ [r] } vr v' ve vz vs (V'.setCell ⟨g, 2, none⟩ v') := by
  obtain ⟨a, b, c, d, e⟩ := h.grown rfl 1 2 rfl hgr hnew hown (by decide)
  refine ⟨a, b, c, ?_, h.len, h.wg, h.wm, h.gB, h.mB, h.gm, e⟩
  have : rowsP { S with links := S.links ++ [r] } vr v' ve vz vs = (rowsP S vr vl ve vz vs).set 1 ⟨95, 2, v', S.links.length + 1, linkXs S.links ++ [.string r.1, .string r.2]⟩ := by
    unfold rowsP; dsimp only; rw [linkXs_snoc, List.length_append]; rfl
  rw [this]; exact d
theorem PM.lined (h : PM w g m B S vr vl ve vz vs V) (r : Int × ByteArray) {v' : Value} (hgr : V.grownBy V' ve.ownBlock) (hnew : ∀ c, v'.ownBlock = some c → ve.ownBlock = some c ∨ c = V.heap.size)
    (hown : V'.ownsRow B 118 2 v' (S.eras.length + 1) (lineXs S.eras ++ [.int .i64 r.1, .string r.2])) : PM w g m B { S with eras := S.eras ++ [r] } vr vl v' vz vs (V'.setCell ⟨g, 4, none⟩ v') := by
  obtain ⟨a, b, c, d, e⟩ := h.grown rfl 2 4 rfl hgr hnew hown (by decide)
  refine ⟨a, b, c, ?_, h.len, h.wg, h.wm, h.gB, h.mB, h.gm, e⟩
  have : rowsP { S with eras := S.eras ++ [r] } vr vl v' vz vs = (rowsP S vr vl ve vz vs).set 2 ⟨118, 2, v', S.eras.length + 1, lineXs S.eras ++ [.int .i64 r.1, .string r.2]⟩ := by
    unfold rowsP; dsimp only; rw [lineXs_snoc, List.length_append]; rfl
  rw [this]; exact d
/-- a zone more, of no eras. -/
theorem PM.zoned (h : PM w g m B S vr vl ve vz vs V) (nm : ByteArray) {v' : Value} (hgr : V.grownBy V' vz.ownBlock) (hnew : ∀ c, v'.ownBlock = some c → vz.ownBlock = some c ∨ c = V.heap.size)
    (hown : V'.ownsRow B 90 2 v' (S.zones.length + 1) (zoneXs S.zones vs ++ [.string nm, .slice none 0 0])) : PM w g m B { S with zones := S.zones ++ [(nm, [])] } vr vl ve v' (vs ++ [.slice none 0 0]) (V'.setCell ⟨g, 1, none⟩ v') := by
  obtain ⟨a, b, c, d, e⟩ := h.grown rfl 3 1 rfl hgr hnew hown (by decide)
  refine ⟨a, b, c, ?_, by simp [h.len], h.wg, h.wm, h.gB, h.mB, h.gm, e⟩
  have : rowsP { S with zones := S.zones ++ [(nm, [])] } vr vl ve v' (vs ++ [.slice none 0 0]) = (rowsP S vr vl ve vz vs).set 3 ⟨90, 2, v', S.zones.length + 1, zoneXs S.zones vs ++ [.string nm, .slice none 0 0]⟩ ++ [PRow.new 94 11] := by
    unfold rowsP; dsimp only; rw [zoneXs_snoc _ _ _ _ h.len, eraRows_snoc _ _ _ _ h.len, List.length_append]; rfl
  rw [this]; exact d.push _ _
/-- an era more of the last zone. -/
theorem PM.erad (h : PM w g m B S vr vl ve vz vs V) {l : List ZnT'} {z : ZnT'} (hS : S.zones = l ++ [z]) {vq : List Value} {v : Value} (hvs : vs = vq ++ [v]) (e : EraT) {v' : Value} (hgr : V.grownBy V' v.ownBlock) (hnew : ∀ c, v'.ownBlock = some c → v.ownBlock = some c ∨ c = V.heap.size)
    (hown : V'.ownsRow B 94 11 v' (z.2.length + 1) (eraXs z.2 ++ e.cs)) {zb zc : Nat} (hz : vz = .slice (some ⟨zb, 0, none⟩) S.zones.length zc) :
    PM w g m B { S with zones := addE S.zones e } vr vl ve vz (vq ++ [v']) (V'.setCell ⟨zb, l.length * 2 + 1, none⟩ v') := by
  have hlen : vq.length = l.length := by have := h.len; rw [hS, hvs] at this; simpa using this
  have hz4 : (rowsP S vr vl ve vz vs)[4 + l.length]? = some (eraRow z v) := by
    unfold rowsP
    rw [List.getElem?_append_right (by simp), hS, hvs, eraRows_snoc _ _ _ _ hlen]
    simp only [List.length_cons, List.length_nil]
    rw [show 4 + l.length - (0 + 1 + 1 + 1 + 1) = l.length by omega, List.getElem?_append_right (by rw [eraRows_len _ _ hlen]; omega), eraRows_len _ _ hlen, Nat.sub_self]; rfl
  have hz3 : (rowsP S vr vl ve vz vs)[3]? = some ⟨90, 2, vz, S.zones.length, zoneXs S.zones vs⟩ := rfl
  have hr : ∀ c, v.ownBlock = some c → B ≤ c ∧ c < V.heap.size := fun c hc => h.fam.lt (List.mem_of_getElem? hz4) hc
  have hzb : B ≤ zb ∧ zb < V.heap.size := h.fam.lt (List.mem_of_getElem? hz3) (by rw [hz]; rfl)
  have hvz : v.ownBlock ≠ some zb := fun q => h.fam.2 (4 + l.length) 3 _ _ hz4 hz3 (by omega) zb q (by rw [hz]; rfl)
  have F1 := h.fam.grow (4 + l.length) hz4 hgr hnew hown
  have hs : ∀ c, c ≠ zb → (V'.setCell ⟨zb, l.length * 2 + 1, none⟩ v').heap[c]? = V'.heap[c]? := fun c hc => heap_setCell_other V' ⟨zb, l.length * 2 + 1, none⟩ c v' (fun e => hc e)
  have F2 := F1.put (g := zb) (cap := zc) 3 (r := ⟨90, 2, vz, S.zones.length, zoneXs S.zones vs⟩) (by rw [List.getElem?_set_ne (by omega)]; rfl) hz (l.length * 2 + 1) v'
  have hgl := h.gB
  have hgb := hgr.block g h.lt (fun e => by have := (hr g e.symm).1; omega)
  have hsz : (V'.setCell ⟨zb, l.length * 2 + 1, none⟩ v').heap.size = V'.heap.size := by simp
  refine ⟨?_, ?_, ?_, ?_, ?_, h.wg, h.wm, h.gB, h.mB, h.gm, by rw [hsz]; exact Nat.le_trans h.BV hgr.size⟩
  · refine Below.setCell ⟨hgr.os.trans h.low.os, hgr.tape.trans h.low.tape, hgr.output.trans h.low.output, Nat.le_trans h.low.size hgr.size, fun c hc => (hgr.block c (by have := h.low.size; omega) (fun e => by have := (hr c e.symm).1; have := h.wB; omega)).trans (h.low.block c hc)⟩ (p := ⟨zb, _, none⟩) (by have := h.wB; show _ ≤ zb; omega) v'
  · refine ⟨by rw [hsz]; exact Nat.lt_of_lt_of_le h.lt hgr.size, fun j u q => ?_⟩
    have hb := (hs g (by omega)).trans hgb
    exact ⟨(World.cell?_of_block (w := V) (a := ⟨g, j, none⟩) hb).trans (h.box.2 j u q).1, (World.frozen?_of_block (w := V) (a := ⟨g, j, none⟩) hb).trans (h.box.2 j u q).2⟩
  · have hml := h.mB
    exact (h.map.kept hgr (fun e => by have := (hr m e).1; omega)).same (hs m (by omega))
  · have : rowsP { S with zones := addE S.zones e } vr vl ve vz (vq ++ [v']) = ((rowsP S vr vl ve vz vs).set (4 + l.length) ⟨(eraRow z v).t, (eraRow z v).z, v', z.2.length + 1, eraXs z.2 ++ e.cs⟩).set 3 ⟨90, 2, vz, S.zones.length, (zoneXs S.zones vs).set (l.length * 2 + 1) v'⟩ := by
      unfold rowsP; dsimp only
      rw [hS, hvs, addE_snoc, zoneXs_snoc _ _ _ _ hlen, zoneXs_snoc _ _ _ _ hlen, eraRows_snoc _ _ _ _ hlen, eraRows_snoc _ _ _ _ hlen]
      have e1 : (zoneXs l vq ++ [.string z.1, v]).set (l.length * 2 + 1) v' = zoneXs l vq ++ [.string z.1, v'] := by
        rw [List.set_append_right _ _ (by rw [zoneXs_len _ _ hlen]; omega), zoneXs_len _ _ hlen, show l.length * 2 + 1 - l.length * 2 = 1 by omega]; rfl
      rw [e1, show 4 + l.length = l.length + 1 + 1 + 1 + 1 by omega]
      simp only [List.cons_append, List.nil_append, List.set_cons_succ, List.set_cons_zero, List.length_append, List.length_singleton]
      rw [List.set_append_right _ _ (by rw [eraRows_len _ _ hlen]; omega), eraRows_len _ _ hlen, Nat.sub_self]
      simp only [eraRow, List.set_cons_zero, eraXs_snoc, List.length_append, List.length_singleton]
    rw [this]; exact F2
  · rw [hS, addE_snoc]; simp [hlen]
/-- whether a line must follow. -/
theorem PM.opened (h : PM w g m B S vr vl ve vz vs V) (b : Bool) : PM w g m B { S with op := b } vr vl ve vz vs (V.setCell ⟨g, 5, none⟩ (.bool b)) := by
  have hs : ∀ c, c ≠ g → (V.setCell ⟨g, 5, none⟩ (.bool b)).heap[c]? = V.heap[c]? := fun c hc => heap_setCell_other V ⟨g, 5, none⟩ c _ (fun e => hc e)
  have hsz : (V.setCell ⟨g, 5, none⟩ (.bool b)).heap.size = V.heap.size := by simp
  exact ⟨h.low.setCell (p := ⟨g, 5, none⟩) h.wg _, h.box.set1 5 (.bool b) (by simp [boxP]), h.map.same (hs m (fun e => h.gm e.symm)), h.fam.keep fun c h1 h2 _ => hs c (by have := h.gB; omega), h.len, h.wg, h.wm, h.gB, h.mB, h.gm, by rw [hsz]; exact h.BV⟩
end

end Go.Proofs.YtgnfkkcagbbhmaaGreatDoor
