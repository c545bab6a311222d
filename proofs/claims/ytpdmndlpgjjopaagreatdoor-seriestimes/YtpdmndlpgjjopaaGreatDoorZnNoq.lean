/- zone of a table without a foot: Right, At, Instant. -/
import Derived.Test.YtpdmndlpgjjopaaGreatDoorZnZq
import Derived.Test.YtpdmndlpgjjopaaGreatDoorZnFgq
import Derived.Test.YtpdmndlpgjjopaaGreatDoorFtAq
import Derived.Test.YtpdmndlpgjjopaaGreatDoorCvZq
namespace Go.Proofs.YtpdmndlpgjjopaaGreatDoor
open Go.RowKit Sr
set_option linter.unusedVariables false

def zeF : List Value := [.bool false, .int .i64 0, .int .i64 0, .int .i64 0, .int .i64 0, .int .i64 0, .int .i64 0, .int .i64 0, .int .u8 0, .int .i64 0, .string ⟨#[]⟩, .int .i64 0, .int .i64 0, .int .i64 0, .int .i64 0, .int .i64 0, .int .u8 0, .int .i64 0, .string ⟨#[]⟩]
/-- the blocks that a table leans on. -/
def bkS (sv : Value) : List TrR → List Nat
  | [] => []
  | _ :: _ => match sv with | .slice (some a) _ _ => [a.block] | _ => []
/-- a world in which a table's changes can be read. -/
def OkN (sv : Value) (L : List TrR) (W : World) : Prop := TrAt W sv L ∧ Cvl.Lens W
theorem OkN.okS (sv : Value) (L : List TrR) : OkS (0 :: bkS sv L) (OkN sv L) := by
  refine ⟨fun W W' h hs hk => ⟨?_, ?_⟩, fun W h k hk => ?_, fun W h => h⟩
  · obtain ⟨⟨h1, h2, h3⟩, _⟩ := h
    refine ⟨h1, h2, h3.imp_right ?_⟩
    rintro ⟨g, o, c, e, hg, hc⟩
    refine ⟨g, o, c, e, Nat.lt_of_lt_of_le hg hs, fun j u hj => ?_⟩
    cases L with
    | nil => simp [trCs] at hj
    | cons x l => exact (World.cell?_of_block (w := W) (hk g (by subst e; simp [bkS]))).trans (hc j u hj)
  · exact fun i hi => (World.cell?_of_block (w := W) (hk _ (by simp))).trans (h.2 i hi)
  · rcases List.mem_cons.1 hk with rfl | hk
    · have := h.2 0 (by decide)
      exact World.block_lt_of_cell? W _ this
    · cases L with
      | nil => simp [bkS] at hk
      | cons x l =>
        obtain ⟨_, _, h3⟩ := h.1
        rcases h3 with h3 | ⟨g, o, c, e, hg, hc⟩
        · cases h3
        · subst e; simp [bkS] at hk; omega
theorem OkN.below {sv : Value} {L : List TrR} {W W' : World} (h : OkN sv L W) (hb : Below W.heap.size W W') : OkN sv L W' := (OkN.okS sv L).below h hb

/-- a table that can be, without a foot. -/
structure NoF (f : TrR) (L : List TrR) : Prop where
  h1 : f.at_ = 0
  h2 : offB f.off = true
  h3 : L.length ≤ 4096
  h4 : ∀ j, j < L.length → OkTr L j
theorem NoF.rises {f : TrR} {L : List TrR} (h : NoF f L) : Zm.Rises (L.map (·.at_)) := rises_of L (fun j p x hp hx => by
  obtain ⟨x', e, _, _, _, k⟩ := h.h4 (j + 1) (List.getElem?_eq_some_iff.1 hx).1
  rw [hx] at e; cases e
  rcases k with k | ⟨p', e, k⟩
  · omega
  · rw [Nat.add_sub_cancel, hp] at e; cases e; exact k)

theorem nright (nm : ByteArray) (f : TrR) (sv : Value) (L : List TrR) (h : NoF f L) (w : World) (HT : TrAt w sv L) :
    Calls Tryz.prog 16 #[.agg (tbF nm f sv zeF).toArray] w fun e w' => e = .returned (.bool true) ∧ Below w.heap.size w w' :=
  right_gen nm f sv zeF rfl L true true false h.h1 h.h2 h.h3 (fun ⟨j, hj, k⟩ => absurd (h.h4 j hj) k) (fun _ => rfl) (fun W => by kernel_rfl) w HT (fun k => by cases k)

/-- an instant that is asked, by its year. -/
def ask (t : Int) : Prop := -9223372036854775808 ≤ t ∧ t ≤ 9223372036854775807 ∧ ∃ y, Fn.YAt t y ∧ askY y = true
theorem nat_ (nm : ByteArray) (f : TrR) (sv : Value) (L : List TrR) (h : NoF f L) (t : Int) (ht : ask t) (w : World) (HO : OkN sv L w) :
    Calls Tryz.prog 77 #[.agg (tbF nm f sv zeF).toArray, .int .i64 t] w fun r w' => r = .returned (.tuple #[trV (curT f L (Zm.cntLe t (L.map (·.at_)))), .int .i64 0]) ∧ Below w.heap.size w w' := by
  obtain ⟨t1, t2, y, hy, ha⟩ := ht
  have R := zat_any nm f sv zeF rfl false 0 t rfl rfl L true (fun _ => ⟨h.rises, h.h3⟩) y zTr 0 w HO.1
    (fun W hb => nright nm f sv L h W (HO.1.mv hb)) (fun W hb => Fn.yat_any t y hy t1 t2 W (HO.below hb).2) (fun _ _ k => by cases k)
  unfold atP atE at R
  rw [if_pos rfl, if_pos rfl, if_pos ha, if_pos ha, if_neg (fun q => absurd q.1 (by decide))] at R
  exact R

/-- the stretches about what clocks say. -/
def stsN (f : TrR) (L : List TrR) (x : Int) : List Zm.St := Zm.strs (x - 57600) (x + 57600 + 1) (curT f L (Zm.cntLe (x - 57600) (L.map (·.at_)))).off ((Zm.chg (x - 57600) (x + 57600) L).map fun c => (c.at_, c.off))
theorem strs_len (e : Int) : ∀ (l : List (Int × Int)) (a o : Int), (Zm.strs a e o l).length = l.length + 1
  | [], _, _ => rfl
  | c :: l, a, o => by rw [Zm.strs, List.length_cons, strs_len e l, List.length_cons]
theorem strs_off (e : Int) (P : Int → Prop) : ∀ (l : List (Int × Int)) (a o : Int), P o → (∀ c ∈ l, P c.2) → ∀ s ∈ Zm.strs a e o l, P s.o
  | [], a, o, h, _, s, hs => by simp [Zm.strs] at hs; rw [hs]; exact h
  | c :: l, a, o, h, hl, s, hs => by
    rw [Zm.strs] at hs
    rcases List.mem_cons.1 hs with rfl | hs
    · exact h
    · exact strs_off e P l c.1 c.2 (hl c List.mem_cons_self) (fun d hd => hl d (List.mem_cons_of_mem _ hd)) s hs
theorem tw_sub {p : TrR → Bool} : ∀ (l : List TrR), (l.takeWhile p).length ≤ l.length ∧ ∀ x ∈ l.takeWhile p, x ∈ l
  | [] => ⟨Nat.le_refl _, fun x h => h⟩
  | a :: l => by
    obtain ⟨h1, h2⟩ := tw_sub (p := p) l
    by_cases h : p a = true
    · rw [List.takeWhile_cons_of_pos h]
      refine ⟨by simpa using h1, fun x hx => ?_⟩
      rcases List.mem_cons.1 hx with rfl | hx
      · exact List.mem_cons_self
      · exact List.mem_cons_of_mem _ (h2 x hx)
    · rw [List.takeWhile_cons_of_neg h]
      exact ⟨Nat.zero_le _, fun x hx => by cases hx⟩
theorem offB_bd {o : Int} (h : offB o = true) : -57600 ≤ o ∧ o ≤ 57600 := by unfold offB at h; simp at h; exact h
theorem NoF.off {f : TrR} {L : List TrR} (h : NoF f L) {x : TrR} (hx : x ∈ L) : -57600 ≤ x.off ∧ x.off ≤ 57600 := by
  obtain ⟨j, hj⟩ := List.getElem?_of_mem hx
  obtain ⟨x', e, k, _⟩ := h.h4 j (List.getElem?_eq_some_iff.1 hj).1
  rw [hj] at e; cases e
  exact offB_bd k
theorem cur_mem (f : TrR) (L : List TrR) (i : Nat) : curT f L i = f ∨ curT f L i ∈ L := by
  unfold curT
  split
  · exact .inl rfl
  · rw [List.getD_eq_getElem?_getD]
    cases h : L[i - 1]? with
    | none => exact .inl rfl
    | some x => exact .inr (List.mem_of_getElem? h)
theorem NoF.cur {f : TrR} {L : List TrR} (h : NoF f L) (i : Nat) : -57600 ≤ (curT f L i).off ∧ (curT f L i).off ≤ 57600 := by
  rcases cur_mem f L i with e | e
  · rw [e]; exact offB_bd h.h2
  · exact h.off e

theorem nin_ (nm : ByteArray) (f : TrR) (ao : Option Addr) (n c : Nat) (hnc : n ≤ c) (L : List TrR) (hn : L.length = n) (h : NoF f L) (x : Int) (h0 : ask x) (h1 : ask (x - 57600)) (h2 : ask (x + 57600)) (x1 : -1000000000000000 ≤ x) (x2 : x ≤ 1000000000000000) (w : World) (HO : OkN (.slice ao n c) L w) :
    Calls Tryz.prog 80 #[.agg (tbF nm f (.slice ao n c) zeF).toArray, .int .i64 x] w fun r w' => r = .returned (.tuple #[.int .i64 (inV (Zm.pGo x (stsN f L x) (⟨0, 0, 0⟩, ⟨0, 0, 0⟩))), .int .i64 (inH (Zm.pGo x (stsN f L x) (⟨0, 0, 0⟩, ⟨0, 0, 0⟩))), .int .i64 0]) ∧ Below w.heap.size w w' := by
  have hS := OkN.okS (.slice ao n c) L
  have AS : ∀ t, ask t → ∀ W : World, Below w.heap.size w W → Calls Tryz.prog 96 #[.int .i64 t] W fun r w' => r = .returned (.bool true) ∧ w' = W := fun t ⟨t1, t2, y, hy, ha⟩ W hb => by
    have R := asked_any t y W (Fn.yat_any t y hy t1 t2 W (HO.below hb).2)
    rw [ha] at R
    exact R
  refine zin_yes _ (tbF_len rfl) x x1 x2 _ w (fun W hb => nright nm f _ L h W (HO.1.mv hb)) (AS _ h0) (AS _ h1) (AS _ h2) (fun W hb => ?_)
  have hl : (stsN f L x).length = (Zm.chg (x - 57600) (x + 57600) L).length + 1 := by unfold stsN; rw [strs_len, List.length_map]
  have hcl : (Zm.chg (x - 57600) (x + 57600) L).length ≤ L.length := Nat.le_trans (tw_sub _).1 (by rw [List.length_drop]; omega)
  have hcm : ∀ c ∈ Zm.chg (x - 57600) (x + 57600) L, c ∈ L := fun c hc => List.mem_of_mem_drop ((tw_sub _).2 c hc)
  refine hear_any _ (tbF_len rfl) _ _ hS x x1 x2 (stsN f L x) (by rw [hl]; have := h.h3; omega) ?_ ?_ W (HO.below hb)
  · exact strs_off _ (fun o => -57600 ≤ o ∧ o ≤ 57600) _ _ _ (h.cur _) (fun c hc => by obtain ⟨d, hd, rfl⟩ := List.mem_map.1 hc; exact h.off (hcm d hd))
  · intro V b m hm hV X1 X2 X3
    rw [hl]
    refine strs_seq _ (tbF_len rfl) _ _ hS (x - 57600) (x + 57600 + 1) (by omega) (by omega) (curT f L (Zm.cntLe (x - 57600) (L.map (·.at_)))) (Zm.chg (x - 57600) (x + 57600) L) (fun U hU => ?_) (fun U b m hU Z1 Z2 Z3 => ?_) V m hm _ _ _ X1 X2 X3 hV
    · have R := stand_any nm f (.slice ao n c) zeF rfl false 0 (x - 57600) rfl rfl L h.rises h.h3 zTr 0 U hU.1 (fun k => by cases k)
      rw [if_neg (fun q => absurd q.1 (by decide))] at R
      exact R
    · rw [show x + 57600 + 1 - 1 = x + 57600 by omega] at Z3
      exact chs_no _ (tbF_len rfl) _ _ hS (x - 57600) (x + 57600) ao n c hnc L rfl rfl h.rises h.h3 hn (fun V hV => hV.1) U m b (b + 1) (b + 2) Z1 Z2 Z3 hU

end Go.Proofs.YtpdmndlpgjjopaaGreatDoor
