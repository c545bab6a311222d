/- Plain mathematics: how the reference counts names and finds a lost one; what holds line by line. -/
import Derived.Test.YtgnfkkcagbbhmaaGreatDoorPmOq
import Derived.Test.YtgnfkkcagbbhmaaGreatDoorQrBq
namespace Go.Proofs.YtgnfkkcagbbhmaaGreatDoor
open Go.RowKit Lin
set_option linter.unusedVariables false

theorem eq_of_toList {a b : ByteArray} (h : a.toList = b.toList) : a = b := by
  rw [Lib.toList_data, Lib.toList_data] at h
  exact ByteArray.ext (Array.toList_inj.1 h)
theorem tl_eq (a b : ByteArray) : (a.toList == b.toList) = decide (a = b) := by
  by_cases h : a = b
  · subst h; simp
  · rw [decide_eq_false h, beq_eq_false_iff_ne]; exact fun q => h (eq_of_toList q)
theorem amB_mem (s : ByteArray) (D : List ByteArray) : amB s D = true ↔ s ∈ D := by
  unfold amB
  rw [List.any_eq_true]
  constructor
  · rintro ⟨x, hx, e⟩
    rw [tl_eq, decide_eq_true_iff] at e
    exact e ▸ hx
  · exact fun h => ⟨s, h, by rw [tl_eq]; simp⟩
/-- how often a name is there. -/
def manyR (nm : ByteArray) : List RuleT → Nat
  | [] => 0
  | r :: l => (if r.nm = nm then 1 else 0) + manyR nm l
theorem manyR_snoc (nm : ByteArray) : ∀ (l : List RuleT) (r : RuleT), manyR nm (l ++ [r]) = manyR nm l + (if r.nm = nm then 1 else 0)
  | [], r => by simp [manyR]
  | x :: l, r => by rw [List.cons_append, manyR, manyR_snoc nm l r, manyR]; omega
theorem manyR_le (nm : ByteArray) : ∀ l : List RuleT, manyR nm l ≤ l.length
  | [] => Nat.le_refl _
  | x :: l => by have := manyR_le nm l; rw [manyR, List.length_cons]; split <;> omega
theorem manyR_zero (nm : ByteArray) : ∀ l : List RuleT, manyR nm l = 0 ↔ nm ∉ l.map (·.nm)
  | [] => by simp [manyR]
  | x :: l => by
    have ih := manyR_zero nm l
    rw [manyR, List.map_cons, List.mem_cons, not_or, ← ih]
    by_cases e : x.nm = nm
    · rw [if_pos e]; constructor
      · intro h; omega
      · intro h; exact absurd e.symm h.1
    · rw [if_neg e]; constructor
      · intro h; exact ⟨fun q => e q.symm, by omega⟩
      · intro h; omega
/-- the names, each once. -/
def onceR : List ByteArray → List RuleT → List ByteArray
  | D, [] => D
  | D, r :: l => onceR (if amB r.nm D = true then D else D ++ [r.nm]) l
theorem onceR_snoc : ∀ (l : List RuleT) (D : List ByteArray) (r : RuleT), onceR D (l ++ [r]) = if amB r.nm (onceR D l) = true then onceR D l else onceR D l ++ [r.nm]
  | [], D, r => rfl
  | x :: l, D, r => by rw [List.cons_append, onceR, onceR_snoc l _ r]; rfl
theorem onceR_mem : ∀ (l : List RuleT) (D : List ByteArray) (k : ByteArray), k ∈ onceR D l ↔ k ∈ D ∨ k ∈ l.map (·.nm)
  | [], D, k => by simp [onceR]
  | x :: l, D, k => by
    rw [onceR, onceR_mem l _ k, List.map_cons, List.mem_cons]
    by_cases e : amB x.nm D = true
    · rw [if_pos e]
      have := (amB_mem _ _).1 e
      constructor
      · rintro (h | h)
        · exact .inl h
        · exact .inr (.inr h)
      · rintro (h | rfl | h)
        · exact .inl h
        · exact .inl this
        · exact .inr h
    · rw [if_neg e, List.mem_append, List.mem_singleton, or_assoc]
theorem onceR_len : ∀ (l : List RuleT) (D : List ByteArray), (onceR D l).length ≤ D.length + l.length
  | [], D => by simp [onceR]
  | x :: l, D => by
    rw [onceR, List.length_cons]
    by_cases e : amB x.nm D = true
    · rw [if_pos e]; have := onceR_len l D; omega
    · rw [if_neg e]; have := onceR_len l (D ++ [x.nm]); rw [List.length_append, List.length_singleton] at this; omega
def flatE (Z : List (ByteArray × List EraT)) : List EraT := Z.flatMap (·.2)
theorem flatE_addE : ∀ (Z : List (ByteArray × List EraT)) (e : EraT), Z ≠ [] → flatE (addE Z e) = flatE Z ++ [e]
  | [], e, h => absurd rfl h
  | [z], e, _ => by simp [addE, flatE]
  | z :: y :: l, e, _ => by
    have ih := flatE_addE (y :: l) e (by simp)
    show flatE (z :: addE (y :: l) e) = _
    have c : ∀ (l' : List (ByteArray × List EraT)), flatE (z :: l') = z.2 ++ flatE l' := fun l' => List.flatMap_cons
    rw [c, ih, c, List.append_assoc]
/-- how the state is what was read. -/
structure RefS (S : PSt) : Prop where
  cn : ∀ k, S.cnt k = (manyR k S.rules : Int)
  dn : S.dn = (onceR [] S.rules).length
  er : S.eras.map (·.2) = (flatE S.zones).map (·.rl)
  pos : ∀ e ∈ S.eras, 0 < e.1
  top : S.dn ≤ 16
  zf : ∀ z ∈ S.zones, Few z.1
  lf : ∀ l ∈ S.links, Few l.2
theorem RefS.zero : RefS pst0 := ⟨fun k => rfl, rfl, rfl, (fun e h => by cases h), Nat.zero_le _, (fun e h => by cases h), (fun e h => by cases h)⟩
theorem addE_name : ∀ (Z : List (ByteArray × List EraT)) (e : EraT), (addE Z e).map (·.1) = Z.map (·.1)
  | [], e => rfl
  | [z], e => rfl
  | z :: y :: l, e => by
    show z.1 :: (addE (y :: l) e).map (·.1) = _
    rw [addE_name (y :: l) e]; rfl
theorem RefS.add {S : PSt} {Z : List (ByteArray × List EraT)} {n : Int} {e : EraT} (h : RefS S) (hn : 0 < n) (hZ : Z ≠ []) (hf : flatE Z = flatE S.zones) (hzf : ∀ z ∈ Z, Few z.1) : RefS (addF { S with zones := Z } n e) := by
  refine ⟨h.cn, h.dn, ?_, fun x hx => ?_, h.top, fun z hz => ?_, h.lf⟩
  · show (S.eras ++ [(n, e.rl)]).map _ = (flatE (addE Z e)).map _
    rw [flatE_addE _ _ hZ, hf, List.map_append, List.map_append, h.er]; rfl
  · rcases List.mem_append.1 hx with hx | hx
    · exact h.pos x hx
    · rw [List.mem_singleton.1 hx]; exact hn
  · have : z.1 ∈ (addE Z e).map (·.1) := List.mem_map_of_mem hz
    rw [addE_name] at this
    obtain ⟨y, hy, e2⟩ := List.mem_map.1 this
    rw [← e2]; exact hzf y hy
theorem RefS.rule {S S' : PSt} {F : List ByteArray} (h : RefS S) (e : tkRule S F = .inr S') : RefS S' := by
  unfold tkRule at e
  split at e
  · cases e
  · rename_i r hr
    split at e
    · cases e
    · rename_i hq
      cases e
      refine ⟨fun k => ?_, ?_, h.er, h.pos, ?_, h.zf, h.lf⟩
      · show (if k = r.nm then S.cnt r.nm + 1 else S.cnt k) = ((manyR k (S.rules ++ [r]) : Nat) : Int)
        rw [manyR_snoc, h.cn, h.cn]
        by_cases q : k = r.nm
        · subst q; rw [if_pos rfl, if_pos rfl]; omega
        · rw [if_neg q, if_neg (fun z => q z.symm)]; omega
      · show (if S.cnt r.nm = 0 then S.dn + 1 else S.dn) = (onceR [] (S.rules ++ [r])).length
        rw [onceR_snoc, h.cn, h.dn]
        by_cases q : manyR r.nm S.rules = 0
        · rw [if_pos (by omega), if_neg]
          · simp
          · rw [amB_mem, onceR_mem]
            have := (manyR_zero _ _).1 q
            rintro (z | z)
            · cases z
            · exact this z
        · rw [if_neg (by omega), if_pos]
          rw [amB_mem, onceR_mem]
          by_cases z : r.nm ∈ S.rules.map (·.nm)
          · exact .inr z
          · exact absurd ((manyR_zero _ _).2 z) q
      · have := h.top
        show (if S.cnt r.nm = 0 then S.dn + 1 else S.dn) ≤ 16
        split
        · rename_i q
          have : ¬ S.dn = 16 := fun z => hq (.inr ⟨q, z⟩)
          omega
        · exact this
theorem linkF_few2 {R : List ByteArray} (hF : ∀ x ∈ R, Few x) {r : ByteArray × ByteArray} (hr : linkF R = some r) : Few r.2 := by
  match R, hr with
  | [a, b], hr =>
    have hb := hF b (by simp)
    simp only [linkF] at hr
    split at hr
    · cases hr; exact hb
    · cases hr
  | [], hr => cases hr
  | [a], hr => cases hr
  | a :: b :: d :: l, hr => cases hr
theorem zoneF_few2 {R : List ByteArray} (hF : ∀ x ∈ R, Few x) {r : ByteArray × EraT} (hr : zoneF R = some r) : Few r.1 := by
  match R, hr with
  | [], hr => cases hr
  | a :: l, hr =>
    have hb := hF a (by simp)
    simp only [zoneF] at hr
    split at hr
    · cases hr
    · split at hr
      · cases hr; exact hb
      · cases hr
theorem RefS.tk {S S' : PSt} {N : Nat} {n : Int} {F : List ByteArray} (hF : ∀ x ∈ F, Few x) (h : RefS S) (hO : OkS S N) (hn : 0 < n) (e : tkF S n F = .inr S') : RefS S' := by
  unfold tkF at e
  split at e
  · rename_i hop
    obtain ⟨l, z, hS⟩ := hO.op hop
    unfold tkOn at e
    split at e
    · cases e
    · split at e
      · cases e
      · cases e
        exact h.add (Z := S.zones) hn (by rw [hS]; simp) rfl h.zf
  · split at e
    · cases e
    · rename_i f r
      have hR : ∀ x ∈ r, Few x := fun x hx => hF x (by simp [hx])
      split at e
      · exact h.rule e
      · split at e
        · unfold tkZone at e
          split at e
          · cases e
          · rename_i nm er hz
            split at e
            · cases e
            · split at e
              · cases e
              · cases e
                refine h.add hn (by simp) (by unfold flatE; rw [List.flatMap_append]; simp) (fun z hz2 => ?_)
                rcases List.mem_append.1 hz2 with q | q
                · exact h.zf z q
                · rw [List.mem_singleton.1 q]; exact zoneF_few2 hR hz
        · split at e
          · unfold tkLink at e
            split at e
            · cases e
            · rename_i k hk
              split at e
              · cases e
              · split at e
                · cases e
                · cases e
                  refine ⟨h.cn, h.dn, h.er, h.pos, h.top, h.zf, fun l hl => ?_⟩
                  rcases List.mem_append.1 hl with q | q
                  · exact h.lf l q
                  · rw [List.mem_singleton.1 q]; exact linkF_few2 hR hk
          · cases e
/-- a rule taken. -/
def tkR (S : PSt) (r : RuleT) : Sum Int PSt :=
  if S.cnt r.nm = 16 ∨ (S.cnt r.nm = 0 ∧ S.dn = 16) then .inl 3
  else .inr { S with rules := S.rules ++ [r], dn := if S.cnt r.nm = 0 then S.dn + 1 else S.dn, cnt := fun k => if k = r.nm then S.cnt r.nm + 1 else S.cnt k }
theorem tkRule_no {S : PSt} {F : List ByteArray} (h : ruleF F = none) : tkRule S F = .inl 21 := by unfold tkRule; rw [h]
theorem tkRule_yes {S : PSt} {F : List ByteArray} {r : RuleT} (h : ruleF F = some r) : tkRule S F = tkR S r := by unfold tkRule; rw [h]; rfl
/-- whether a name was never read. -/
theorem RefS.none {S : PSt} (h : RefS S) (k : ByteArray) : (S.cnt k = 0) ↔ amB k (S.rules.map (·.nm)) = false := by
  rw [h.cn, Bool.eq_false_iff, Ne, amB_mem, ← manyR_zero]
  omega
/-- the line of the first lost name, over eras in order. -/
theorem lost_at {S : PSt} (h : RefS S) {j : Nat} {x : Int × ByteArray} (hx : S.eras[j]? = some x) : lostL S.cnt (S.eras.drop j) = if (x.2.toList == []) = true then lostL S.cnt (S.eras.drop (j + 1)) else if amB x.2 (S.rules.map (·.nm)) = true then lostL S.cnt (S.eras.drop (j + 1)) else x.1 := by
  have e := lostL_at (cnt := S.cnt) hx
  generalize lostL S.cnt (S.eras.drop j) = G at e ⊢
  generalize lostL S.cnt (S.eras.drop (j + 1)) = G1 at e ⊢
  subst e
  by_cases a : x.2.toList = []
  · rw [if_pos a, if_pos (show (x.2.toList == []) = true by simpa using a)]
  · rw [if_neg a, if_neg (show ¬ ((x.2.toList == []) = true) by simpa using a)]
    by_cases b : S.cnt x.2 = 0
    · rw [if_pos b, if_neg (show ¬ (amB x.2 (S.rules.map (·.nm)) = true) by rw [(h.none _).1 b]; decide)]
    · rw [if_neg b, if_pos]
      cases q : amB x.2 (S.rules.map (·.nm)) with
      | false => exact absurd ((h.none _).2 q) b
      | true => rfl
theorem manyR_at {R : List RuleT} {j : Nat} {r : RuleT} (nm : ByteArray) (hx : R[j]? = some r) : manyR nm (R.take (j + 1)) = manyR nm (R.take j) + (if r.nm = nm then 1 else 0) := by
  have hj := (List.getElem?_eq_some_iff.1 hx).1
  rw [List.take_add_one, hx]
  exact manyR_snoc nm _ r
theorem onceR_at {R : List RuleT} {j : Nat} {r : RuleT} (hx : R[j]? = some r) : onceR [] (R.take (j + 1)) = if amB r.nm (onceR [] (R.take j)) = true then onceR [] (R.take j) else onceR [] (R.take j) ++ [r.nm] := by
  rw [List.take_add_one, hx]
  exact onceR_snoc _ _ r

end Go.Proofs.YtgnfkkcagbbhmaaGreatDoor
