/- Plain mathematics: what holds of the parser's state line by line. -/
import Derived.Test.YtgnfkkcagbbhmaaGreatDoorPmNq
import Derived.Test.YtgnfkkcagbbhmaaGreatDoorLnGq
namespace Go.Proofs.YtgnfkkcagbbhmaaGreatDoor
open Go.RowKit Lin
set_option linter.unusedVariables false

theorem OkS.zero : OkS pst0 0 := ⟨Nat.le_refl _, Nat.le_refl _, Nat.le_refl _, Nat.le_refl _, fun k => ⟨Int.le_refl _, by show (0 : Int) ≤ 16; omega⟩, (fun z hz => by cases hz), (fun z hz => by cases hz), (fun z hz => by cases hz), (fun h => by cases h)⟩
theorem tkRule_ok {S S' : PSt} {N : Nat} {F : List ByteArray} (h : OkS S N) (e : tkRule S F = .inr S') : OkS S' (N + 1) := by
  unfold tkRule at e
  split at e
  · cases e
  · rename_i r hr
    split at e
    · cases e
    · rename_i hz
      cases e
      refine ⟨?_, Nat.le_succ_of_le h.zones, Nat.le_succ_of_le h.links, Nat.le_succ_of_le h.eras, fun k => ?_, h.zn, fun z hz => Nat.le_succ_of_le (h.ze z hz), h.ln, h.op⟩
      · have := h.rules; rw [List.length_append]; show _ + 1 ≤ _; omega
      · dsimp only
        have h1 := h.cnt r.nm
        have h2 := h.cnt k
        split <;> omega
theorem tkLink_ok {S S' : PSt} {N : Nat} {F : List ByteArray} (hF : ∀ x ∈ F, Few x) (h : OkS S N) (e : tkLink S F = .inr S') : OkS S' (N + 1) := by
  unfold tkLink at e
  split at e
  · cases e
  · rename_i r hr
    split at e
    · cases e
    · split at e
      · cases e
      · cases e
        refine ⟨Nat.le_succ_of_le h.rules, Nat.le_succ_of_le h.zones, ?_, Nat.le_succ_of_le h.eras, h.cnt, h.zn, fun z hz => Nat.le_succ_of_le (h.ze z hz), fun l hl => ?_, h.op⟩
        · have := h.links; rw [List.length_append]; show _ + 1 ≤ _; omega
        · rcases List.mem_append.1 hl with hl | hl
          · exact h.ln l hl
          · rw [List.mem_singleton.1 hl]; exact linkF_few hF hr
theorem tkZone_ok {S S' : PSt} {N : Nat} {n : Int} {F : List ByteArray} (hF : ∀ x ∈ F, Few x) (h : OkS S N) (e : tkZone S n F = .inr S') : OkS S' (N + 1) := by
  unfold tkZone at e
  split at e
  · cases e
  · rename_i nm r hr
    split at e
    · cases e
    · split at e
      · cases e
      · cases e
        have ez : (addF { S with zones := S.zones ++ [(nm, [])] } n r).zones = S.zones ++ [(nm, [r])] := by
          show addE (S.zones ++ [(nm, [])]) r = _
          rw [addE_snoc]; rfl
        refine ⟨Nat.le_succ_of_le h.rules, ?_, Nat.le_succ_of_le h.links, ?_, h.cnt, fun z hz => ?_, fun z hz => ?_, h.ln, fun _ => ⟨_, _, ez⟩⟩
        · rw [ez, List.length_append]; have := h.zones; show _ + 1 ≤ _; omega
        · show (S.eras ++ [_]).length ≤ _; rw [List.length_append]; have := h.eras; show _ + 1 ≤ _; omega
        · rw [ez] at hz
          rcases List.mem_append.1 hz with hz | hz
          · exact h.zn z hz
          · rw [List.mem_singleton.1 hz]; exact zoneF_few hF hr
        · rw [ez] at hz
          rcases List.mem_append.1 hz with hz | hz
          · exact Nat.le_succ_of_le (h.ze z hz)
          · rw [List.mem_singleton.1 hz]; show 1 ≤ _; omega
theorem tkOn_ok {S S' : PSt} {N : Nat} {n : Int} {F : List ByteArray} (hop : S.op = true) (h : OkS S N) (e : tkOn S n F = .inr S') : OkS S' (N + 1) := by
  obtain ⟨l, z, hS⟩ := h.op hop
  unfold tkOn at e
  split at e
  · cases e
  · rename_i r hr
    split at e
    · cases e
    · cases e
      have ez : (addF S n r).zones = l ++ [(z.1, z.2 ++ [r])] := by
        show addE S.zones r = _
        rw [hS, addE_snoc]
      refine ⟨Nat.le_succ_of_le h.rules, ?_, Nat.le_succ_of_le h.links, ?_, h.cnt, fun y hy => ?_, fun y hy => ?_, h.ln, fun _ => ⟨_, _, ez⟩⟩
      · have := h.zones; rw [hS] at this; rw [ez, List.length_append]; rw [List.length_append] at this; exact Nat.le_succ_of_le this
      · show (S.eras ++ [_]).length ≤ _; rw [List.length_append]; have := h.eras; show _ + 1 ≤ _; omega
      · rw [ez] at hy
        rcases List.mem_append.1 hy with hy | hy
        · exact h.zn y (by rw [hS]; exact List.mem_append_left _ hy)
        · rw [List.mem_singleton.1 hy]; exact h.zn z (by rw [hS]; simp)
      · rw [ez] at hy
        rcases List.mem_append.1 hy with hy | hy
        · exact Nat.le_succ_of_le (h.ze y (by rw [hS]; exact List.mem_append_left _ hy))
        · rw [List.mem_singleton.1 hy]
          have := h.ze z (by rw [hS]; simp)
          show (z.2 ++ [r]).length ≤ _
          rw [List.length_append]; show _ + 1 ≤ _; omega
theorem tkF_ok {S S' : PSt} {N : Nat} {n : Int} {f : ByteArray} {R : List ByteArray} (hF : ∀ x ∈ R, Few x) (h : OkS S N) (e : tkF S n (f :: R) = .inr S') : OkS S' (N + 1) := by
  unfold tkF at e
  split at e
  · rename_i hop; exact tkOn_ok hop h e
  · dsimp only at e
    split at e
    · exact tkRule_ok h e
    · split at e
      · exact tkZone_ok hF h e
      · split at e
        · exact tkLink_ok hF h e
        · cases e
/-- what comes of the parser's state and the lines that are left. -/
def endP (L : List Lne) : Sum (Int × Int) PSt → Sum (Int × Int) PSt
  | .inl a => .inl a
  | .inr S => if S.op = true then .inl ((L.getLast?.map (·.1)).getD 0, 21) else if 0 < lostF S then .inl (lostF S, 23) else .inr S
theorem parseP_lines {s : ByteArray} {L : List Lne} (h : lnsS s = .inr L) : parseP s = endP L (runP pst0 L) := by
  unfold parseP
  rw [h]
  dsimp only
  cases runP pst0 L <;> rfl
theorem parseP_none {s : ByteArray} {a : Int × Int} (h : lnsS s = .inl a) : parseP s = .inl a := by
  unfold parseP; rw [h]
theorem runP_at {S : PSt} {L : List Lne} {j : Nat} {x : Lne} (hx : L[j]? = some x) : runP S (L.drop j) = match tkF S x.1 x.2 with | .inl e => .inl (x.1, e) | .inr S' => runP S' (L.drop (j + 1)) := by
  have hj := (List.getElem?_eq_some_iff.1 hx).1
  rw [List.drop_eq_getElem_cons hj, (List.getElem?_eq_some_iff.1 hx).2, runP]
  cases tkF S x.1 x.2 <;> rfl
theorem good_few {L : List Lne} (h : GoodL L) {j : Nat} {x : Lne} (hx : L[j]? = some x) : ∃ f R, x.2 = f :: R ∧ Few f ∧ ∀ y ∈ R, Few y := by
  obtain ⟨h1, h2, h3⟩ := h.2 x (List.mem_of_getElem? hx)
  match hF : x.2, h1, h3 with
  | [], h1, _ => simp at h1
  | f :: R, _, h3 => exact ⟨f, R, rfl, (h3 f (by simp)).2, fun y hy => (h3 y (by simp [hy])).2⟩

end Go.Proofs.YtgnfkkcagbbhmaaGreatDoor
