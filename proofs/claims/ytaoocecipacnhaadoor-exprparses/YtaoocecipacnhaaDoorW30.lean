import Derived.Test.YtaoocecipacnhaaDoorWz
import Derived.Test.YtaoocecipacnhaaDoorW28
import Derived.Test.YtaoocecipacnhaaDoorW29
open Go.Value renaming int → vi
open Go.IntKind renaming i64 → ki
open List renaming setIfInBounds_toArray → zb, set_cons_zero → zc, set_cons_succ → zd
open Go.Act renaming put → za
open Go.Ending renaming returned → zr
set_option maxRecDepth 100000
set_option maxHeartbeats 16000000
set_option linter.unusedVariables false
namespace Go.Proofs.YtaoocecipacnhaaDoor
open Go.RowKit
def ksT (f d : Nat) (acc : List Nd) : List Tk → PR
 | [] => .no 0 0
 | q :: l1 => if isT q [(5, b1 44)] then par f (.ks acc) d l1 else if isT q [(5, b1 41)] then .ok (.mk 9 ByteArray.empty acc 0) l1 else .no q.2.2 30
theorem ks_step (f d : Nat) (acc : List Nd) (p : Tk) (l : List Tk) : par (f + 1) (.ks acc) d (p :: l) = match par f (.lv 0) d (p :: l) with | .no a e => .no a e | .ok n l1 => ksT f d (acc ++ [n]) l1 := by
 rw [par_succ]; unfold pst; dsimp only
 cases par f (.lv 0) d (p :: l) with
 | no a e => rfl
 | ok n l1 => cases l1 <;> rfl
def msR (g : Nat) (W : World) : Nat := match W.cell? ⟨g, 2, none⟩ with | some (vi ki 0) => lenAtR g W + 1 | _ => 0
theorem RS.msr {g b cap : Nat} {T : List Tk} {w : World} {L : List Tk} {d : Nat} (h : RS g b cap T w L d) : msR g w = L.length + 1 := by
 obtain ⟨_, _, _, hb⟩ := h.bx
 unfold msR; rw [hb.c 2 rfl, h.len]; simp
theorem RF.msr {g b lo : Nat} {w : World} {a e : Int} (h : RF g b lo w a e) (he : e ≠ 0) : msR g w = 0 := by
 obtain ⟨_, _, _, _, _, _, _, _, _, hb, _⟩ := h
 unfold msR; rw [hb.c 2 rfl]
 split
 ·rename_i q; simp only [Option.some.injEq, Value.int.injEq, true_and] at q; exact absurd q he
 ·rfl
def KM (g b cap : Nat) (T : List Tk) (w : World) (B : Nat) (nm : ByteArray) (at_ : Int) (d : Nat) (L : List Tk) (acc : List Nd) (sq : Option Addr) (sn sc : Nat) (xs : List Value) (V : World) : Prop :=
 Kp g w V ∧ Bx V (w.heap.size + 1) [vi ki 0, .string ⟨#[]⟩, .slice none 0 0, vi ki 0] ∧ Bx V B [vi ki 9, .string nm, .slice sq sn sc, vi ki at_] ∧ RS g b cap T V L d ∧ EndL (mL L) ∧ V.ownsRow (B + 1) 30 4 (.slice sq sn sc) acc.length xs ∧ KidsL (fun c => B + 1 ≤ c ∧ (Value.slice sq sn sc).ownBlock ≠ some c) V acc xs
theorem KM.kp {g b cap : Nat} {T : List Tk} {w : World} {B : Nat} {nm : ByteArray} {at_ : Int} {d d' : Nat} {L L' : List Tk} {acc : List Nd} {sq : Option Addr} {sn sc : Nat} {xs : List Value} {V V' : World} (h : KM g b cap T w B nm at_ d L acc sq sn sc xs V) (hg : g < w.heap.size) (hB : w.heap.size + 2 ≤ B) (hk : Kp g V V') (hp : RS g b cap T V' L' d') (he : EndL (mL L')) : KM g b cap T w B nm at_ d' L' acc sq sn sc xs V' :=
 ⟨h.1.trans hk, hk.bx h.2.1 (by omega), hk.bx h.2.2.1 (by omega), hp, he, ownsRow_kp h.2.2.2.2.2.1 hk (by omega), KidsL.keep hk.size (fun c hc hl => ⟨hc, hk.block c hl (by omega)⟩) _ _ h.2.2.2.2.2.2⟩
theorem KM.drew {g b cap : Nat} {T : List Tk} {w : World} {B : Nat} {nm : ByteArray} {at_ : Int} {d : Nat} {L : List Tk} {acc : List Nd} {sq : Option Addr} {sn sc : Nat} {xs : List Value} {V : World} (h : KM g b cap T w B nm at_ d L acc sq sn sc xs V) : KM g b cap T w B nm at_ d L acc sq sn sc xs V.drew :=
 ⟨h.1.drew, h.2.1, h.2.2.1, h.2.2.2.1.drew, h.2.2.2.2.1, h.2.2.2.2.2.1, KidsL.keep (w := V) (W := V.drew) (Nat.le_refl _) (fun c hc _ => ⟨hc, rfl⟩) _ _ h.2.2.2.2.2.2⟩
theorem KM.more {g b cap : Nat} {T : List Tk} {w : World} {B : Nat} {nm : ByteArray} {at_ : Int} {d : Nat} {L : List Tk} {acc : List Nd} {sq sq' : Option Addr} {sn sc sn' sc' : Nat} {xs : List Value} {V V' : World} {n : Nd} {c0 c1 c2 c3 : Value} (h : KM g b cap T w B nm at_ d L acc sq sn sc xs V) (hg : g < w.heap.size) (hbl : b < w.heap.size) (hB : w.heap.size + 2 ≤ B)
  (hn : NdAt (fun c => B + 1 ≤ c ∧ (Value.slice sq sn sc).ownBlock ≠ some c) V n [c0, c1, c2, c3]) (hgr : V.grownBy V' (Value.slice sq sn sc).ownBlock) (hnew : ∀ c, (Value.slice sq' sn' sc').ownBlock = some c → c < V.heap.size → (Value.slice sq sn sc).ownBlock = some c)
  (hown : V'.ownsRow (B + 1) 30 4 (.slice sq' sn' sc') (acc ++ [n]).length (xs ++ [c0, c1, c2, c3])) : KM g b cap T w B nm at_ d L (acc ++ [n]) sq' sn' sc' (xs ++ [c0, c1, c2, c3]) (V'.setCell ⟨B, 2, none⟩ (.slice sq' sn' sc')) := by
 have hob : ∀ c, (Value.slice sq sn sc).ownBlock = some c → B + 1 ≤ c := fun c hc => (ob_lt h.2.2.2.2.2.1 hc).1
 have hz := h.1.size
 have hz1 := h.2.2.1.1
 have bl : ∀ c, c < V.heap.size → (Value.slice sq sn sc).ownBlock ≠ some c → V'.heap[c]? = V.heap[c]? := fun c hc hne => hgr.block c hc (fun e => hne e.symm)
 have kp : Kp g w V' := ⟨hgr.os.trans h.1.os, hgr.tape.trans h.1.tape, hgr.output.trans h.1.output, Nat.le_trans hz hgr.size, fun k hk hg' => (bl k (by omega) (fun e => by have := hob _ e; omega)).trans (h.1.block k hk hg')⟩
 have bx : ∀ b l, b < B + 1 → Bx V b l → Bx V' b l := fun b l hb hB => by
  have q := bl b hB.1 (fun e => by have := hob _ e; omega)
  exact ⟨Nat.lt_of_lt_of_le hB.1 hgr.size, fun i v e => ⟨(World.cell?_of_block (w := V) (a := ⟨b, i, none⟩) q).trans (hB.2 i v e).1, (World.frozen?_of_block (w := V) (a := ⟨b, i, none⟩) q).trans (hB.2 i v e).2⟩⟩
 have k2 : ∀ c, c < V'.heap.size → c ≠ B → (V'.setCell ⟨B, 2, none⟩ (.slice sq' sn' sc')).heap[c]? = V'.heap[c]? := fun c _ hc => Below.heap_setCell _ _ _ _ hc
 refine ⟨kp.set (p := ⟨B, 2, none⟩) (.inr (by show _ ≤ B; omega)) _, (bx _ _ (by omega) h.2.1).setOther (by omega) [_] 2, (bx _ _ (by omega) h.2.2.1).set1 2 _ (by simp), ?_, h.2.2.2.2.1, ?_, ?_⟩
 ·refine RS.off (r := B) (h.2.2.2.1.keep hgr.size (fun c hc => bl c ?_ ?_)) k2 (by simp) (by omega) (by omega)
  ·rcases hc with rfl | rfl; exact h.2.2.2.1.lt; exact h.2.2.2.1.tr.1
  ·intro e; have := hob _ e; rcases hc with rfl | rfl <;> omega
 ·exact ownsRow_keep hown (fun c h1 h2 => Below.heap_setCell _ _ _ _ (by show c ≠ B; omega))
 ·refine KidsL.keep (w := V) (by simpa using hgr.size) (fun c hc hl => ⟨⟨hc.1, fun e => hc.2 (hnew c e hl)⟩, ?_⟩) _ _ (KidsL.snoc hn _ _ h.2.2.2.2.2.2)
  rw [Below.heap_setCell _ _ _ _ (by show c ≠ B; omega)]; exact bl c hl hc.2
theorem KM.node {g b cap : Nat} {T : List Tk} {w : World} {B : Nat} {nm : ByteArray} {at_ : Int} {d : Nat} {L : List Tk} {acc : List Nd} {sq : Option Addr} {sn sc : Nat} {xs : List Value} {V : World} (h : KM g b cap T w B nm at_ d L acc sq sn sc xs V) (h0 : 0 < acc.length) : NdAt (fun c => B + 1 ≤ c) V (.mk 9 nm acc at_) [vi ki 9, .string nm, .slice sq sn sc, vi ki at_] := by
 have hown := h.2.2.2.2.2.1
 rcases hown.2 with ⟨e, h1⟩ | ⟨g1, cp, cur, e, h1, h2, h3, h4, h5, h6⟩
 ·omega
 ·cases e
  have hlt := (Array.getElem?_eq_some_iff.1 h2).1
  refine NdAt.row h0 h3 h4 h1 hlt (KidsL.row acc xs 0 (fun j v hv => ?_) (KidsL.keep (Nat.le_refl _) (fun c hc _ => ⟨hc.1, rfl⟩) _ _ h.2.2.2.2.2.2))
  have hj := (List.getElem?_eq_some_iff.1 hv).1
  rw [hown.1] at hj
  rw [Nat.zero_mul, Nat.zero_add, hown.cellAt j hj]; exact hv
theorem KM.start {g b cap : Nat} {T : List Tk} {w : World} {B : Nat} {nm : ByteArray} {at_ : Int} {d : Nat} {L : List Tk} {V : World} (hk : Kp g w V) (h1 : Bx V (w.heap.size + 1) [vi ki 0, .string ⟨#[]⟩, .slice none 0 0, vi ki 0]) (h2 : Bx V B [vi ki 9, .string nm, .slice none 0 0, vi ki at_]) (h3 : RS g b cap T V L d) (h4 : EndL (mL L)) : KM g b cap T w B nm at_ d L [] none 0 0 [] V :=
 ⟨hk, h1, h2, h3, h4, World.ownsRow_nil _ _ _ _, rfl⟩
end Go.Proofs.YtaoocecipacnhaaDoor
