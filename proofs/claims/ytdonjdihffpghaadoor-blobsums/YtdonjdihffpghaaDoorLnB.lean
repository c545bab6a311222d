/- Contract of the reference's one: a line's fields, or that it can not be; its machine and the program's come to the same. -/
import Derived.Test.YtdonjdihffpghaaDoorLnA
namespace Go.Proofs.YtdonjdihffpghaaDoor.Lin
open Go.RowKit
set_option linter.unusedVariables false

/-- may a byte stand in a line? -/
def okC (c : Nat) : Bool := decide (c = 9 ∨ c = 13 ∨ (32 ≤ c ∧ c ≤ 126))
def rstp (r : LSt) (c : UInt8) : Option LSt :=
  if okC c.toNat = false then none
  else if r.lf = true then some r
  else if r.qu = true then (if c.toNat = 13 then none else if c.toNat = 34 then some ⟨r.out, r.fld, r.bg, false, r.lf⟩ else some ⟨r.out, r.fld ++ [c], r.bg, r.qu, r.lf⟩)
  else if c.toNat = 34 then some ⟨r.out, r.fld, true, true, r.lf⟩
  else if c.toNat = 35 ∨ c.toNat = 32 ∨ c.toNat = 9 ∨ c.toNat = 13 then some ⟨fin r, [], false, r.qu, decide (c.toNat = 35)⟩
  else some ⟨r.out, r.fld ++ [c], true, r.qu, r.lf⟩
def rrun : List UInt8 → LSt → Option LSt
  | [], s => some s
  | c :: l, s => match rstp s c with
    | none => none
    | some s' => rrun l s'
theorem rrun_some {c : UInt8} {l : List UInt8} {s s' : LSt} (h : rstp s c = some s') : rrun (c :: l) s = rrun l s' := by
  show (match rstp s c with | none => none | some s' => rrun l s') = _
  rw [h]
theorem rrun_none {c : UInt8} {l : List UInt8} {s : LSt} (h : rstp s c = none) : rrun (c :: l) s = none := by
  show (match rstp s c with | none => none | some s' => rrun l s') = _
  rw [h]
/-- both machines side by side. -/
def Rel (s r : LSt) : Prop := (s.bg = true ∨ s.qu = false) ∧ ((s.lf = false ∧ r = s) ∨ (s.lf = true ∧ s.qu = false ∧ r = ⟨fin s, [], false, false, true⟩))
theorem fin_lf (o : List ByteArray) (f : List UInt8) (b q l q' l' : Bool) : fin ⟨o, f, b, q, l⟩ = fin ⟨o, f, b, q', l'⟩ := rfl
theorem kind_ok (c : Nat) : kindN c false = 0 ↔ okC c = false := by
  unfold kindN okC
  rw [decide_eq_false_iff_not]
  simp only [Bool.false_eq_true, and_false, if_false]
  repeat' split
  all_goals (constructor <;> intro h)
  all_goals first | omega | (exfalso; omega) | skip
theorem both_run (l : List UInt8) : ∀ (s r : LSt), Rel s r → oneR (rrun l r) = oneR (runL l s) := by
  induction l with
  | nil =>
    rintro ⟨o, f, b, q, lf⟩ r ⟨_, ⟨_, rfl⟩ | ⟨h1, h2, rfl⟩⟩
    · rfl
    · simp only at h1 h2
      subst h1 h2
      show ends _ = ends _
      unfold ends
      simp [fin]
  | cons c l ih =>
    rintro ⟨o, f, b, q, lf⟩ r ⟨hbq, ⟨h1, rfl⟩ | ⟨h1, h2, rfl⟩⟩
    · simp only at h1 hbq
      subst h1
      by_cases hok : okC c.toNat = false
      · rw [rrun_none (by unfold rstp; rw [if_pos hok]), run_none (by
          show kindN c.toNat q = 0
          have := (kind_ok c.toNat).2 hok
          unfold okC at hok
          have hok := of_decide_eq_false hok
          unfold kindN
          rw [if_neg (by omega), if_neg (by omega), if_neg (by omega), if_neg (by omega), if_neg (by omega)])]
      · have hok2 : c.toNat = 9 ∨ c.toNat = 13 ∨ (32 ≤ c.toNat ∧ c.toNat ≤ 126) := by
          have hk : okC c.toNat = true := by
            cases h : okC c.toNat
            · exact absurd h hok
            · rfl
          exact of_decide_eq_true hk
        cases q
        · by_cases h34 : c.toNat = 34
          · rw [rrun_some (s' := ⟨o, f, true, true, false⟩) (by unfold rstp; rw [if_neg hok]; simp [h34]), run_quote (by show kindN c.toNat false = 2; rw [h34]; rfl) rfl]
            exact ih _ _ ⟨.inl rfl, .inl ⟨rfl, rfl⟩⟩
          · by_cases h35 : c.toNat = 35
            · rw [rrun_some (s' := ⟨fin ⟨o, f, b, false, false⟩, [], false, false, true⟩) (by unfold rstp; rw [if_neg hok]; simp [h35]), run_mark (by show kindN c.toNat false = 3; rw [h35]; rfl) rfl]
              exact ih _ _ ⟨.inr rfl, .inr ⟨rfl, rfl, by rw [fin_lf o f b false false false true]⟩⟩
            · by_cases hb : c.toNat = 32 ∨ c.toNat = 9 ∨ c.toNat = 13
              · rw [rrun_some (s' := ⟨fin ⟨o, f, b, false, false⟩, [], false, false, false⟩) (by unfold rstp; rw [if_neg hok]; simp [h34, h35, hb]), run_blank (by
                  show kindN c.toNat false = 1
                  unfold kindN
                  rw [if_neg h34, if_neg (by simp), if_pos hb]; rfl) rfl]
                exact ih _ _ ⟨.inr rfl, .inl ⟨rfl, rfl⟩⟩
              · rw [rrun_some (s' := ⟨o, f ++ [c], true, false, false⟩) (by unfold rstp; rw [if_neg hok]; simp [h34, h35, hb]), run_plain (by
                  show kindN c.toNat false = 4
                  unfold kindN
                  rw [if_neg h34, if_neg (by simp), if_neg hb, if_neg h35, if_pos (by omega)]) rfl]
                exact ih _ _ ⟨.inl rfl, .inl ⟨rfl, rfl⟩⟩
        · have hb1 : b = true := by simpa using hbq
          subst hb1
          by_cases h13 : c.toNat = 13
          · rw [rrun_none (by unfold rstp; simp [h13, okC]), run_none (by show kindN c.toNat true = 0; rw [h13]; rfl)]
          · by_cases h34 : c.toNat = 34
            · rw [rrun_some (s' := ⟨o, f, true, false, false⟩) (by unfold rstp; rw [if_neg hok]; simp [h34]), run_quote (by show kindN c.toNat true = 2; rw [h34]; rfl) rfl]
              exact ih _ _ ⟨.inl rfl, .inl ⟨rfl, rfl⟩⟩
            · rw [rrun_some (s' := ⟨o, f ++ [c], true, true, false⟩) (by unfold rstp; rw [if_neg hok]; simp [h34, h13]), run_plain (by
                show kindN c.toNat true = 4
                unfold kindN
                rw [if_neg h34, if_neg (by omega)]
                repeat' split
                all_goals first | rfl | omega | (rename_i h; exact absurd rfl h) | (rename_i h _; exact absurd rfl h)) rfl]
              exact ih _ _ ⟨.inl rfl, .inl ⟨rfl, rfl⟩⟩
    · simp only at h1 h2
      subst h1 h2
      by_cases hok : okC c.toNat = false
      · rw [rrun_none (by unfold rstp; rw [if_pos hok]), run_none (by show kindN c.toNat false = 0; exact (kind_ok _).2 hok)]
      · rw [rrun_some (s' := ⟨fin ⟨o, f, b, false, true⟩, [], false, false, true⟩) (by unfold rstp; rw [if_neg hok, if_pos rfl]), run_left (by show kindN c.toNat false ≠ 0; exact fun k => hok ((kind_ok _).1 k)) rfl]
        exact ih _ _ ⟨hbq, .inr ⟨rfl, rfl, rfl⟩⟩
theorem one_same (t : List UInt8) : oneR (rrun t lst0) = oneL t := both_run t lst0 lst0 ⟨.inr rfl, .inl ⟨rfl, rfl⟩⟩

/-- what the loop keeps: the fields, the field. -/
def SpJ (w : World) (W : World) (v u : Value) (o : List ByteArray) (f : List UInt8) : Prop :=
  W.ownsRow w.heap.size 9 1 v o.length (cellsS o) ∧ W.ownsRow w.heap.size 5 1 u f.length (cellsB f) ∧ Below w.heap.size w W
theorem SpJ.byte {w : World} {W W3 : World} {v u u' : Value} {o : List ByteArray} {f : List UInt8} {c : UInt8} {x : Int} (h : SpJ w W v u o f) (obj : Obj)
    (hg : (W.alloc obj).grownBy W3 u.ownBlock) (ho : W3.ownsRow w.heap.size 5 1 u' (f.length + 1) (cellsB f ++ [.int .u8 x])) (hc : (c.toNat : Int) = x) : SpJ w W3 v u' o (f ++ [c]) := by
  refine ⟨?_, ?_, ?_⟩
  · exact (h.1.alloc obj).kept hg (own_apart h.1 h.2.1 (by decide))
  · rw [cellsB_more f c x hc, List.length_append]; exact ho
  · exact Below.grown (h.2.2.alloc h.2.2.size obj) hg (by have := h.2.2.size; simp; omega) (fun k hk => (h.2.1.lt _ hk).1)
theorem SpJ.field {w : World} {W W3 : World} {v u v' : Value} {o : List ByteArray} {f : List UInt8} {x : ByteArray} (h : SpJ w W v u o f) (obj : Obj)
    (hg : (W.alloc obj).grownBy W3 v.ownBlock) (ho : W3.ownsRow w.heap.size 9 1 v' (o.length + 1) (cellsS o ++ [.string x])) : SpJ w W3 v' u (o ++ [x]) f := by
  refine ⟨?_, ?_, ?_⟩
  · rw [cellsS_more o x, List.length_append]; exact ho
  · exact (h.2.1.alloc obj).kept hg (own_apart h.2.1 h.1 (by decide))
  · exact Below.grown (h.2.2.alloc h.2.2.size obj) hg (by have := h.2.2.size; simp; omega) (fun k hk => (h.1.lt _ hk).1)
theorem SpJ.noField {w : World} {W : World} {v u : Value} {o : List ByteArray} {f : List UInt8} (h : SpJ w W v u o f) : SpJ w W v (.slice none 0 0) o [] := ⟨h.1, World.ownsRow_nil _ _ _ _, h.2.2⟩
theorem ixL (s : ByteArray) (k : Nat) (c : UInt8) (C : Nat) (h : k < s.size) (hc : (s[k]'h) = c) (hC : c.toNat = C) (w0 : World) : (Instr.index 9 (.string s) (.int .i64 (k : Int))).run Tryd.prog w0 = .ok (.int .u8 (C : Int)) w0 := by
  rw [run_index_string w0 9 s .i64 (k : Int) Tryd.underlying9, dif_pos ⟨by omega, by omega⟩]
  show Result.ok (Value.int .u8 ((s[((k : Nat) : Int).toNat]'_).toNat : Int)) w0 = _
  simp only [Int.toNat_natCast]
  rw [hc, hC]

end Go.Proofs.YtdonjdihffpghaaDoor.Lin
