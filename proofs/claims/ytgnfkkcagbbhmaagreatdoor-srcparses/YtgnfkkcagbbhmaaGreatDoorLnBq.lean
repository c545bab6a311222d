/- Contract of the reference's one: a line's fields, or that it can not be; its machine and the program's come to the same. -/
import Derived.Test.YtgnfkkcagbbhmaaGreatDoorLnAq
namespace Go.Proofs.YtgnfkkcagbbhmaaGreatDoor.Lin
open Go.RowKit
set_option linter.unusedVariables false

/-- may a byte stand in a line? -/
def okC (c : Nat) : Bool := decide (c = 9 ∨ c = 13 ∨ (32 ≤ c ∧ c ≤ 126))
def rstp (r : LSt) (c : UInt8) : Option LSt :=
  if okC c.toNat = false then none
  else if r.lf = true then some r
  else if r.qu = true then (if c.toNat = 13 then none else if c.toNat = 34 then some ⟨r.out, r.fld, r.bg, false, r.lf⟩ else some ⟨r.out, r.fld ++ [c], r.bg, r.qu, r.lf⟩)
  else if c.toNat = 34 then some ⟨r.out, r.fld, true, true, r.lf⟩
  else if c.toNat = 35 ∨ c.toNat = 32 ∨ c.toNat = 9 ∨ c.toNat = 13 then some ⟨fin r, [], false, r.qu, decide (c.toNat = 35)⟩
  else some ⟨r.out, r.fld ++ [c], true, r.qu, r.lf⟩
def rrun : List UInt8 → LSt → Option LSt
  | [], s => some s
  | c :: l, s => match rstp s c with
    | none => none
    | some s' => rrun l s'
theorem rrun_some {c : UInt8} {l : List UInt8} {s s' : LSt} (h : rstp s c = some s') : rrun (c :: l) s = rrun l s' := by
  show (match rstp s c with | none => none | some s' => rrun l s') = _
  rw [h]
theorem rrun_none {c : UInt8} {l : List UInt8} {s : LSt} (h : rstp s c = none) : rrun (c :: l) s = none := by
  show (match rstp s c with | none => none | some s' => rrun l s') = _
  rw [h]
/-- both machines side by side. -/
def Rel (s r : LSt) : Prop := (s.bg = true ∨ s.qu = false) ∧ ((s.lf = false ∧ r = s) ∨ (s.lf = true ∧ s.qu = false ∧ r = ⟨fin s, [], false, false, true⟩))
theorem fin_lf (o : List ByteArray) (f : List UInt8) (b q l q' l' : Bool) : fin ⟨o, f, b, q, l⟩ = fin ⟨o, f, b, q', l'⟩ := rfl
theorem kind_ok (c : Nat) : kindN c false = 0 ↔ okC c = false := by
  unfold kindN okC
  rw [decide_eq_false_iff_not]
  simp only [Bool.false_eq_true, and_false, if_false]
  repeat' split
  all_goals (constructor <;> intro h)
  all_goals first | omega | (exfalso; omega) | skip
theorem both_run (l : List UInt8) : ∀ (s r : LSt), Rel s r → oneR (rrun l r) = oneR (runL l s) := by
  induction l with
  | nil =>
    rintro ⟨o, f, b, q, lf⟩ r ⟨_, ⟨_, rfl⟩ | ⟨h1, h2, rfl⟩⟩
    · rfl
    · simp only at h1 h2
      subst h1 h2
      show ends _ = ends _
      unfold ends
      simp [fin]
  | cons c l ih =>
    rintro ⟨o, f, b, q, lf⟩ r ⟨hbq, ⟨h1, rfl⟩ | ⟨h1, h2, rfl⟩⟩
    · simp only at h1 hbq
      subst h1
      by_cases hok : okC c.toNat = false
      · rw [rrun_none (by unfold rstp; rw [if_pos hok]), run_none (by
          show kindN c.toNat q = 0
          have := (kind_ok c.toNat).2 hok
          unfold okC at hok
          have hok := of_decide_eq_false hok
          unfold kindN
          rw [if_neg (by omega), if_neg (by omega), if_neg (by omega), if_neg (by omega), if_neg (by omega)])]
      · have hok2 : c.toNat = 9 ∨ c.toNat = 13 ∨ (32 ≤ c.toNat ∧ c.toNat ≤ 126) := by
          have hk : okC c.toNat = true := by
            cases h : okC c.toNat
            · exact absurd h hok
            · rfl
          exact of_decide_eq_true hk
        cases q
        · by_cases h34 : c.toNat = 34
          · rw [rrun_some (s' := ⟨o, f, true, true, false⟩) (by unfold rstp; rw [if_neg hok]; simp [h34]), run_quote (by show kindN c.toNat false = 2; rw [h34]; rfl) rfl]
            exact ih _ _ ⟨.inl rfl, .inl ⟨rfl, rfl⟩⟩
          · by_cases h35 : c.toNat = 35
            · rw [rrun_some (s' := ⟨fin ⟨o, f, b, false, false⟩, [], false, false, true⟩) (by unfold rstp; rw [if_neg hok]; simp [h35]), run_mark (by show kindN c.toNat false = 3; rw [h35]; rfl) rfl]
              exact ih _ _ ⟨.inr rfl, .inr ⟨rfl, rfl, by rw [fin_lf o f b false false false true]⟩⟩
            · by_cases hb : c.toNat = 32 ∨ c.toNat = 9 ∨ c.toNat = 13
              · rw [rrun_some (s' := ⟨fin ⟨o, f, b, false, false⟩, [], false, false, false⟩) (by unfold rstp; rw [if_neg hok]; simp [h34, h35, hb]), run_blank (by
                  show kindN c.toNat false = 1
                  unfold kindN
                  rw [if_neg h34, if_neg (by simp), if_pos hb]; rfl) rfl]
                exact ih _ _ ⟨.inr rfl, .inl ⟨rfl, rfl⟩⟩
              · rw [rrun_some (s' := ⟨o, f ++ [c], true, false, false⟩) (by unfold rstp; rw [if_neg hok]; simp [h34, h35, hb]), run_plain (by
                  show kindN c.toNat false = 4
                  unfold kindN
                  rw [if_neg h34, if_neg (by simp), if_neg hb, if_neg h35, if_pos (by omega)]) rfl]
                exact ih _ _ ⟨.inl rfl, .inl ⟨rfl, rfl⟩⟩
        · have hb1 : b = true := by simpa using hbq
          subst hb1
          by_cases h13 : c.toNat = 13
          · rw [rrun_none (by unfold rstp; simp [h13, okC]), run_none (by show kindN c.toNat true = 0; rw [h13]; rfl)]
          · by_cases h34 : c.toNat = 34
            · rw [rrun_some (s' := ⟨o, f, true, false, false⟩) (by unfold rstp; rw [if_neg hok]; simp [h34]), run_quote (by show kindN c.toNat true = 2; rw [h34]; rfl) rfl]
              exact ih _ _ ⟨.inl rfl, .inl ⟨rfl, rfl⟩⟩
            · rw [rrun_some (s' := ⟨o, f ++ [c], true, true, false⟩) (by unfold rstp; rw [if_neg hok]; simp [h34, h13]), run_plain (by
                show kindN c.toNat true = 4
                unfold kindN
                rw [if_neg h34, if_neg (by omega)]
                repeat' split
                all_goals first | rfl | omega | (rename_i h; exact absurd rfl h) | (rename_i h _; exact absurd rfl h)) rfl]
              exact ih _ _ ⟨.inl rfl, .inl ⟨rfl, rfl⟩⟩
    · simp only at h1 h2
      subst h1 h2
      by_cases hok : okC c.toNat = false
      · rw [rrun_none (by unfold rstp; rw [if_pos hok]), run_none (by show kindN c.toNat false = 0; exact (kind_ok _).2 hok)]
      · rw [rrun_some (s' := ⟨fin ⟨o, f, b, false, true⟩, [], false, false, true⟩) (by unfold rstp; rw [if_neg hok, if_pos rfl]), run_left (by show kindN c.toNat false ≠ 0; exact fun k => hok ((kind_ok _).1 k)) rfl]
        exact ih _ _ ⟨hbq, .inr ⟨rfl, rfl, rfl⟩⟩
theorem one_same (t : List UInt8) : oneR (rrun t lst0) = oneL t := both_run t lst0 lst0 ⟨.inr rfl, .inl ⟨rfl, rfl⟩⟩

/-- what the loop keeps: the fields, the field. -/
def SpJ (w : World) (W : World) (v u : Value) (o : List ByteArray) (f : List UInt8) : Prop :=
  W.ownsRow w.heap.size 9 1 v o.length (cellsS o) ∧ W.ownsRow w.heap.size 5 1 u f.length (cellsB f) ∧ Below w.heap.size w W
theorem SpJ.byte {w : World} {W W3 : World} {v u u' : Value} {o : List ByteArray} {f : List UInt8} {c : UInt8} {x : Int} (h : SpJ w W v u o f) (obj : Obj)
    (hg : (W.alloc obj).grownBy W3 u.ownBlock) (ho : W3.ownsRow w.heap.size 5 1 u' (f.length + 1) (cellsB f ++ [.int .u8 x])) (hc : (c.toNat : Int) = x) : SpJ w W3 v u' o (f ++ [c]) := by
  refine ⟨?_, ?_, ?_⟩
  · exact (h.1.alloc obj).kept hg (own_apart h.1 h.2.1 (by decide))
  · rw [cellsB_more f c x hc, List.length_append]; exact ho
  · exact Below.grown (h.2.2.alloc h.2.2.size obj) hg (by have := h.2.2.size; simp; omega) (fun k hk => (h.2.1.lt _ hk).1)
theorem SpJ.field {w : World} {W W3 : World} {v u v' : Value} {o : List ByteArray} {f : List UInt8} {x : ByteArray} (h : SpJ w W v u o f) (obj : Obj)
    (hg : (W.alloc obj).grownBy W3 v.ownBlock) (ho : W3.ownsRow w.heap.size 9 1 v' (o.length + 1) (cellsS o ++ [.string x])) : SpJ w W3 v' u (o ++ [x]) f := by
  refine ⟨?_, ?_, ?_⟩
  · rw [cellsS_more o x, List.length_append]; exact ho
  · exact (h.2.1.alloc obj).kept hg (own_apart h.2.1 h.1 (by decide))
  · exact Below.grown (h.2.2.alloc h.2.2.size obj) hg (by have := h.2.2.size; simp; omega) (fun k hk => (h.1.lt _ hk).1)
theorem SpJ.noField {w : World} {W : World} {v u : Value} {o : List ByteArray} {f : List UInt8} (h : SpJ w W v u o f) : SpJ w W v (.slice none 0 0) o [] := ⟨h.1, World.ownsRow_nil _ _ _ _, h.2.2⟩
theorem ixL (s : ByteArray) (k : Nat) (c : UInt8) (C : Nat) (h : k < s.size) (hc : (s[k]'h) = c) (hC : c.toNat = C) (w0 : World) : (Instr.index 9 (.string s) (.int .i64 (k : Int))).run Tryz.prog w0 = .ok (.int .u8 (C : Int)) w0 := by
  rw [run_index_string w0 9 s .i64 (k : Int) Tryz.underlying9, dif_pos ⟨by omega, by omega⟩]
  show Result.ok (Value.int .u8 ((s[((k : Nat) : Int).toNat]'_).toNat : Int)) w0 = _
  simp only [Int.toNat_natCast]
  rw [hc, hC]

set_option maxRecDepth 1000000 in
set_option maxHeartbeats 16000000 in
theorem eone_any (t : ByteArray) (ht : t.size ≤ 8192) (w : World) :
    Calls Tryz.prog 52 #[.string t] w fun e w' => Below w.heap.size w w' ∧ LineOf w e w' (oneL t.data.toList) := by
  obtain ⟨i0, hi, hz0, hz1, hz2⟩ := info_parts infoU8
  obtain ⟨i1, hi', hy0, hy1, hy2⟩ := info_parts infoStr
  obtain ⟨G, hG⟩ : ∃ G, G = oneL t.data.toList := ⟨_, rfl⟩
  rw [← hG]
  have HG : Hid (oneR (rrun t.data.toList lst0) = G) := by show _ = _; rw [one_same, hG]
  clear hG
  go_enter Tryz.func52, Tryz.ntmps52
  go_wp2_with fail
  go_loopw [4, 5, 6, 7, 8, 9] (fun v u q b l i wr => ∃ (k : Nat) (s : LSt), k ≤ t.size ∧ i = .int .i64 (k : Int) ∧ b = .bool s.bg ∧ q = .bool s.qu ∧ l = .bool s.lf ∧ s.out.length ≤ k ∧ s.fld.length ≤ k ∧ Hid (SpJ w wr v u s.out s.fld) ∧ Hid (oneR (rrun (t.data.toList.drop k) s) = G)) (fun _ _ _ _ _ i _ => t.size - (intOf i).toNat)
  case atStart => exact ⟨0, lst0, Nat.zero_le _, rfl, rfl, rfl, rfl, Nat.zero_le _, Nat.zero_le _, ⟨World.ownsRow_nil _ _ _ _, World.ownsRow_nil _ _ _ _, Below.refl _ _⟩, HG⟩
  case round =>
    clear HG
    obtain ⟨k, s, hk, rfl, rfl, rfl, rfl, ho, hf, HI, HG⟩ := hrel
    cases s with
    | mk o f bg qu lf =>
    dsimp only at ho hf HI ⊢
    obtain ⟨n, hn⟩ : ∃ n, f.length = n := ⟨_, rfl⟩
    obtain ⟨m, hm⟩ : ∃ m, o.length = m := ⟨_, rfl⟩
    have HO : Hid (wr.ownsRow w.heap.size 5 1 u5 n (cellsB f)) := by have := HI.out.2.1; rw [hn] at this; exact this
    have HQ : Hid (wr.ownsRow w.heap.size 9 1 u4 m (cellsS o)) := by have := HI.out.1; rw [hm] at this; exact this
    have hn8 : n ≤ 8192 := by omega
    have hm8 : m ≤ 8192 := by omega
    by_cases hkt : k < t.size
    · obtain ⟨c, hc1, hc2⟩ := drop_at hkt
      rw [hc1] at HG
      obtain ⟨C, hC⟩ : ∃ C, c.toNat = C := ⟨_, rfl⟩
      have hix := ixL t k c C hkt hc2 hC
      have hkt' : (k : Int) < (t.size : Int) := by omega
      have hkw : IntKind.i64.wrap ((k : Int) + 1) = (k : Int) + 1 := by rw [IntKind.wrap_i64]; omega
      have HC : Hid ((c.toNat : Int) = (C : Int)) := by show _ = _; rw [hC]
      have HCn : Hid (c.toNat = C) := hC
      have hC0 : (0 : Int) ≤ (C : Int) := by omega
      clear hc1 hc2 hC
      by_cases hok : okC C = false
      · have HE : G = none := by rw [← HG.out, rrun_none (by unfold rstp; rw [HCn.out, if_pos hok])]; rfl
        subst HE
        unfold okC at hok
        have hok := of_decide_eq_false hok
        have q9 : ((C : Int) == 9) = false := by rw [beq_eq_false_iff_ne]; omega
        have q13 : ((C : Int) == 13) = false := by rw [beq_eq_false_iff_ne]; omega
        have p9 : ((C : Int) != 9) = true := by rw [bne_iff_ne]; omega
        have p13 : ((C : Int) != 13) = true := by rw [bne_iff_ne]; omega
        have hB := HI.out.2.2
        clear HG HCn HC HO HQ HI
        by_cases h32 : C < 32
        · have h32' : (C : Int) < 32 := by omega
          clear hok h32
          go_wp2_with fail
          go_ret2
          exact ⟨hB, _, rfl⟩
        · have h32' : ¬ (C : Int) < 32 := by omega
          have h126' : 126 < (C : Int) := by omega
          clear hok h32
          go_wp2_with fail
          go_ret2
          exact ⟨hB, _, rfl⟩
      · have hok2 : C = 9 ∨ C = 13 ∨ (32 ≤ C ∧ C ≤ 126) := by
          have hk : okC C = true := by
            cases h : okC C
            · exact absurd h hok
            · rfl
          exact of_decide_eq_true hk
        have HOK : Hid (¬ okC c.toNat = false) := by show ¬ _; rw [HCn.out]; exact hok
        clear hok
        cases lf
        · cases qu
          · by_cases h34 : C = 34
            · subst h34
              have HE : Hid (oneR (rrun (t.data.toList.drop (k + 1)) ⟨o, f, true, true, false⟩) = G) := by
                show _ = _
                rw [← HG.out, rrun_some (s' := ⟨o, f, true, true, false⟩) (by unfold rstp; rw [if_neg HOK.out]; simp [HCn.out])]
              clear HG HCn HC HO HQ hok2 HOK
              go_wp2_with fail
              go_roundw
              case rel => exact ⟨k + 1, ⟨o, f, true, true, false⟩, by omega, by go_num, rfl, rfl, rfl, by show o.length ≤ _; omega, by show f.length ≤ _; omega, HI, HE⟩
              case measure => simp [intOf]; omega
            · by_cases hb : C = 35 ∨ C = 32 ∨ C = 9 ∨ C = 13
              · have HE : Hid (oneR (rrun (t.data.toList.drop (k + 1)) ⟨fin ⟨o, f, bg, false, false⟩, [], false, false, decide (C = 35)⟩) = G) := by
                  show _ = _
                  rw [← HG.out, rrun_some (s' := ⟨fin ⟨o, f, bg, false, false⟩, [], false, false, decide (C = 35)⟩) (by unfold rstp; rw [if_neg HOK.out]; simp [HCn.out, h34, hb])]
                clear HG HCn HC HOK hok2 h34
                cases bg
                · rw [fin_no rfl] at HE
                  have HI2 : Hid (SpJ w wr u4 (.slice none 0 0) o []) := HI.out.noField
                  clear HO HQ HI
                  rcases hb with rfl | rfl | rfl | rfl
                  all_goals
                    go_wp2_with fail
                    go_roundw
                    case rel => exact ⟨k + 1, ⟨o, [], false, false, _⟩, by omega, by go_num, rfl, rfl, rfl, by show o.length ≤ _; omega, by show 0 ≤ _; omega, HI2, HE⟩
                    case measure => simp [intOf]; omega
                · rw [fin_yes rfl] at HE
                  dsimp only at HE
                  rcases HO.out.2 with ⟨e5, en⟩ | ⟨g5, cap5, cur5, e5, _, _, h5n, h5c, _, _⟩
                  · subst e5
                    have ef : f = [] := List.eq_nil_of_length_eq_zero (by omega)
                    have hcv := run_convert_bytes_nil (P := Tryz.prog) wr 123 5 Tryz.underlying123 Tryz.underlying5 0 0 9 Tryz.underlying9
                    have HF : Hid (ByteArray.empty = ⟨f.toArray⟩) := by show _ = _; rw [ef]; rfl
                    clear ef HO
                    rcases HQ.out.2 with ⟨e4, -⟩ | ⟨g4, cap4, cur4, e4, _, _, _, _, _, _⟩
                    all_goals
                      subst e4
                      rcases hb with rfl | rfl | rfl | rfl
                      all_goals
                        go_wp2_with (first
                          | (at_builtin; refine wpList_append_own _ rfl _ _ 52 rfl w.heap.size 9 i1 (.string ByteArray.empty) 1 16 Tryz.underlying52 hi' hy0 hy1 hy2 rfl (by decide) _ m (cellsS o) rfl (HQ.out.alloc _) ⟨wr.heap.size, 0, none⟩ 1 1 [.string ByteArray.empty] rfl rfl (one_newB _ _ _) (one_oneS _) (by unfold maxLen; omega) (by omega) (by have := HI.out.2.2.size; simp; omega) ?_; intro v' w3 hown' hgrow3 hnil3
                             have HJ : Hid (SpJ w w3 v' (.slice none 0 0) (o ++ [ByteArray.empty]) f) := HI.out.field _ hgrow3 (by rw [hm]; exact hown')
                             clear hown' hgrow3 hnil3))
                        have HI2 : Hid (SpJ w w3 v' (.slice none 0 0) (o ++ [(⟨f.toArray⟩ : ByteArray)]) []) := by have := HJ.out.noField; rw [HF.out] at this; exact this
                        clear HQ HI HJ HF
                        go_wp2_with fail
                        go_roundw
                        case rel => exact ⟨k + 1, ⟨o ++ [(⟨f.toArray⟩ : ByteArray)], [], false, false, _⟩, by omega, by go_num, rfl, rfl, rfl, by show (o ++ [_]).length ≤ _; rw [List.length_append]; show _ + 1 ≤ _; omega, by show 0 ≤ _; omega, HI2, HE⟩
                        case measure => simp [intOf]; omega
                  · subst e5
                    have hcv := conv_field HO.out hn
                    clear HO
                    rcases HQ.out.2 with ⟨e4, -⟩ | ⟨g4, cap4, cur4, e4, _, _, _, _, _, _⟩
                    all_goals
                      subst e4
                      rcases hb with rfl | rfl | rfl | rfl
                      all_goals
                        go_wp2_with (first
                          | (at_builtin; refine wpList_append_own _ rfl _ _ 52 rfl w.heap.size 9 i1 (.string ByteArray.empty) 1 16 Tryz.underlying52 hi' hy0 hy1 hy2 rfl (by decide) _ m (cellsS o) rfl (HQ.out.alloc _) ⟨wr.heap.size, 0, none⟩ 1 1 [.string ⟨f.toArray⟩] rfl rfl (one_newB _ _ _) (one_oneS _) (by unfold maxLen; omega) (by omega) (by have := HI.out.2.2.size; simp; omega) ?_; intro v' w3 hown' hgrow3 hnil3
                             have HJ : Hid (SpJ w w3 v' (.slice (some ⟨g5, 0, none⟩) n cap5) (o ++ [⟨f.toArray⟩]) f) := HI.out.field _ hgrow3 (by rw [hm]; exact hown')
                             clear hown' hgrow3 hnil3))
                        have HI2 : Hid (SpJ w w3 v' (.slice none 0 0) (o ++ [(⟨f.toArray⟩ : ByteArray)]) []) := HJ.out.noField
                        clear HQ HI HJ
                        go_wp2_with fail
                        go_roundw
                        case rel => exact ⟨k + 1, ⟨o ++ [(⟨f.toArray⟩ : ByteArray)], [], false, false, _⟩, by omega, by go_num, rfl, rfl, rfl, by show (o ++ [_]).length ≤ _; rw [List.length_append]; show _ + 1 ≤ _; omega, by show 0 ≤ _; omega, HI2, HE⟩
                        case measure => simp [intOf]; omega
              · have HE : Hid (oneR (rrun (t.data.toList.drop (k + 1)) ⟨o, f ++ [c], true, false, false⟩) = G) := by
                  show _ = _
                  rw [← HG.out, rrun_some (s' := ⟨o, f ++ [c], true, false, false⟩) (by unfold rstp; rw [if_neg HOK.out]; simp [HCn.out, h34, hb])]
                have a1 : ¬ (C : Int) < 32 := by omega
                have a2 : ¬ 126 < (C : Int) := by omega
                have a3 : ((C : Int) == 34) = false := by rw [beq_eq_false_iff_ne]; omega
                have a4 : ((C : Int) == 35) = false := by rw [beq_eq_false_iff_ne]; omega
                have a5 : ((C : Int) == 32) = false := by rw [beq_eq_false_iff_ne]; omega
                have a6 : ((C : Int) == 9) = false := by rw [beq_eq_false_iff_ne]; omega
                have a7 : ((C : Int) == 13) = false := by rw [beq_eq_false_iff_ne]; omega
                clear HG HCn HOK hok2 h34 hb HQ
                rcases HO.out.2 with ⟨e0, -⟩ | ⟨g0, cap0, cur, e0, _, _, _, _, _, _⟩
                all_goals
                  subst e0
                  go_wp2_with (first
                    | (at_builtin; refine wpList_append_own _ rfl _ _ 123 rfl w.heap.size 5 i0 (.int .u8 0) 1 1 Tryz.underlying123 hi hz0 hz1 hz2 rfl (by decide) _ n (cellsB f) rfl (HO.out.alloc _) ⟨wr.heap.size, 0, none⟩ 1 1 [.int .u8 _] rfl rfl (one_newB _ _ _) (one_oneB _) (by unfold maxLen; omega) (by omega) (by have := HI.out.2.2.size; simp; omega) ?_; intro v' w3 hown' hgrow3 hnil3
                       have HJ : Hid (SpJ w w3 u4 v' o (f ++ [c])) := HI.out.byte _ hgrow3 (by rw [hn]; exact hown') HC.out
                       clear hown' hgrow3 hnil3))
                  go_roundw
                  case rel => exact ⟨k + 1, ⟨o, f ++ [c], true, false, false⟩, by omega, by go_num, rfl, rfl, rfl, by show o.length ≤ _; omega, by show (f ++ [c]).length ≤ _; rw [List.length_append]; show _ + 1 ≤ _; omega, HJ, HE⟩
                  case measure => simp [intOf]; omega
          · by_cases h13 : C = 13
            · subst h13
              have HE : G = none := by rw [← HG.out, rrun_none (by unfold rstp; rw [if_neg HOK.out]; simp [HCn.out])]; rfl
              subst HE
              have hB := HI.out.2.2
              clear HG HCn HC HO HQ HI HOK hok2
              go_wp2_with fail
              go_ret2
              exact ⟨hB, _, rfl⟩
            · by_cases h34 : C = 34
              · subst h34
                have HE : Hid (oneR (rrun (t.data.toList.drop (k + 1)) ⟨o, f, bg, false, false⟩) = G) := by
                  show _ = _
                  rw [← HG.out, rrun_some (s' := ⟨o, f, bg, false, false⟩) (by unfold rstp; rw [if_neg HOK.out]; simp [HCn.out])]
                clear HG HCn HC HO HQ hok2 HOK
                go_wp2_with fail
                go_roundw
                case rel => exact ⟨k + 1, ⟨o, f, bg, false, false⟩, by omega, by go_num, rfl, rfl, rfl, by show o.length ≤ _; omega, by show f.length ≤ _; omega, HI, HE⟩
                case measure => simp [intOf]; omega
              · have HE : Hid (oneR (rrun (t.data.toList.drop (k + 1)) ⟨o, f ++ [c], bg, true, false⟩) = G) := by
                  show _ = _
                  rw [← HG.out, rrun_some (s' := ⟨o, f ++ [c], bg, true, false⟩) (by unfold rstp; rw [if_neg HOK.out]; simp [HCn.out, h34, h13])]
                have a3 : ((C : Int) == 34) = false := by rw [beq_eq_false_iff_ne]; omega
                have a7 : ((C : Int) == 13) = false := by rw [beq_eq_false_iff_ne]; omega
                have hok3 : C = 9 ∨ (¬ (C : Int) < 32 ∧ ¬ 126 < (C : Int)) := by omega
                clear HG HCn HOK hok2 h34 h13 HQ
                rcases HO.out.2 with ⟨e0, -⟩ | ⟨g0, cap0, cur, e0, _, _, _, _, _, _⟩
                all_goals
                  subst e0
                  rcases hok3 with rfl | ⟨a1, a2⟩
                  all_goals
                    go_wp2_with (first
                      | (at_builtin; refine wpList_append_own _ rfl _ _ 123 rfl w.heap.size 5 i0 (.int .u8 0) 1 1 Tryz.underlying123 hi hz0 hz1 hz2 rfl (by decide) _ n (cellsB f) rfl (HO.out.alloc _) ⟨wr.heap.size, 0, none⟩ 1 1 [.int .u8 _] rfl rfl (one_newB _ _ _) (one_oneB _) (by unfold maxLen; omega) (by omega) (by have := HI.out.2.2.size; simp; omega) ?_; intro v' w3 hown' hgrow3 hnil3
                         have HJ : Hid (SpJ w w3 u4 v' o (f ++ [c])) := HI.out.byte _ hgrow3 (by rw [hn]; exact hown') HC.out
                         clear hown' hgrow3 hnil3))
                    go_roundw
                    case rel => exact ⟨k + 1, ⟨o, f ++ [c], bg, true, false⟩, by omega, by go_num, rfl, rfl, rfl, by show o.length ≤ _; omega, by show (f ++ [c]).length ≤ _; rw [List.length_append]; show _ + 1 ≤ _; omega, HJ, HE⟩
                    case measure => simp [intOf]; omega
        · have HE : Hid (oneR (rrun (t.data.toList.drop (k + 1)) ⟨o, f, bg, qu, true⟩) = G) := by
            show _ = _
            rw [← HG.out, rrun_some (s' := ⟨o, f, bg, qu, true⟩) (by unfold rstp; rw [if_neg HOK.out]; simp)]
          have hok3 : C = 9 ∨ C = 13 ∨ (¬ (C : Int) < 32 ∧ ¬ 126 < (C : Int)) := by omega
          clear HG HCn HC HO HQ HOK hok2
          rcases hok3 with rfl | rfl | ⟨a1, a2⟩
          all_goals
            go_wp2_with fail
            go_roundw
            case rel => exact ⟨k + 1, ⟨o, f, bg, qu, true⟩, by omega, by go_num, rfl, rfl, rfl, by show o.length ≤ _; omega, by show f.length ≤ _; omega, HI, HE⟩
            case measure => simp [intOf]; omega
    · have hkt' : ¬ (k : Int) < (t.size : Int) := by omega
      have HE : Hid (ends ⟨o, f, bg, qu, lf⟩ = G) := by
        show _ = _
        rw [← HG.out, List.drop_of_length_le (by simp; omega)]; rfl
      clear HG
      cases bg
      · have HL : Hid (Below w.heap.size w wr ∧ (qu = true → G = none) ∧ (qu = false → G = some o)) := ⟨HI.out.2.2, fun e => by rw [← HE.out]; subst e; rfl, fun e => by rw [← HE.out]; subst e; rfl⟩
        have HR : Hid (wr.ownsRow w.heap.size 9 1 u4 o.length (cellsS o)) := HI.out.1
        clear HE HI HO HQ
        cases qu
        · obtain ⟨l1, _, l3⟩ := HL.out
          have := l3 rfl
          subst this
          clear HL l3
          go_wp2_with fail
          go_ret2
          exact ⟨l1, _, rfl, HR.out⟩
        · obtain ⟨l1, l3, _⟩ := HL.out
          have := l3 rfl
          subst this
          clear HL l3
          go_wp2_with fail
          go_ret2
          exact ⟨l1, _, rfl⟩
      · have HL : Hid ((qu = true → G = none) ∧ (qu = false → G = some (o ++ [(⟨f.toArray⟩ : ByteArray)]))) := ⟨fun e => by rw [← HE.out]; subst e; rfl, fun e => by rw [← HE.out]; subst e; rfl⟩
        clear HE
        rcases HO.out.2 with ⟨e5, en⟩ | ⟨g5, cap5, cur5, e5, _, _, h5n, h5c, _, _⟩
        · subst e5
          have ef : f = [] := List.eq_nil_of_length_eq_zero (by omega)
          have hcv := run_convert_bytes_nil (P := Tryz.prog) wr 123 5 Tryz.underlying123 Tryz.underlying5 0 0 9 Tryz.underlying9
          have HF : Hid (ByteArray.empty = ⟨f.toArray⟩) := by show _ = _; rw [ef]; rfl
          clear ef HO
          rcases HQ.out.2 with ⟨e4, -⟩ | ⟨g4, cap4, cur4, e4, _, _, _, _, _, _⟩
          all_goals
            subst e4
            cases qu
            · have hG := HL.out.2 rfl
              subst hG
              clear HL
              go_wp2_with (first
                | (at_builtin; refine wpList_append_own _ rfl _ _ 52 rfl w.heap.size 9 i1 (.string ByteArray.empty) 1 16 Tryz.underlying52 hi' hy0 hy1 hy2 rfl (by decide) _ m (cellsS o) rfl (HQ.out.alloc _) ⟨wr.heap.size, 0, none⟩ 1 1 [.string ByteArray.empty] rfl rfl (one_newB _ _ _) (one_oneS _) (by unfold maxLen; omega) (by omega) (by have := HI.out.2.2.size; simp; omega) ?_; intro v' w3 hown' hgrow3 hnil3
                   have HJ : Hid (SpJ w w3 v' (.slice none 0 0) (o ++ [ByteArray.empty]) f) := HI.out.field _ hgrow3 (by rw [hm]; exact hown')
                   clear hown' hgrow3 hnil3))
              have HR : Hid (w3.ownsRow w.heap.size 9 1 v' (o ++ [(⟨f.toArray⟩ : ByteArray)]).length (cellsS (o ++ [(⟨f.toArray⟩ : ByteArray)]))) := by have := HJ.out.1; rw [HF.out] at this; exact this
              have HB := HJ.out.2.2
              clear HQ HI HJ HF
              go_wp2_with fail
              go_ret2
              exact ⟨HB, _, rfl, HR.out⟩
            · have hG := HL.out.1 rfl
              subst hG
              clear HL
              go_wp2_with (first
                | (at_builtin; refine wpList_append_own _ rfl _ _ 52 rfl w.heap.size 9 i1 (.string ByteArray.empty) 1 16 Tryz.underlying52 hi' hy0 hy1 hy2 rfl (by decide) _ m (cellsS o) rfl (HQ.out.alloc _) ⟨wr.heap.size, 0, none⟩ 1 1 [.string ByteArray.empty] rfl rfl (one_newB _ _ _) (one_oneS _) (by unfold maxLen; omega) (by omega) (by have := HI.out.2.2.size; simp; omega) ?_; intro v' w3 hown' hgrow3 hnil3
                   have HJ : Hid (SpJ w w3 v' (.slice none 0 0) (o ++ [ByteArray.empty]) f) := HI.out.field _ hgrow3 (by rw [hm]; exact hown')
                   clear hown' hgrow3 hnil3))
              have HB := HJ.out.2.2
              clear HQ HI HJ HF
              go_wp2_with fail
              go_ret2
              exact ⟨HB, _, rfl⟩
        · subst e5
          have hcv := conv_field HO.out hn
          clear HO
          rcases HQ.out.2 with ⟨e4, -⟩ | ⟨g4, cap4, cur4, e4, _, _, _, _, _, _⟩
          all_goals
            subst e4
            cases qu
            · have hG := HL.out.2 rfl
              subst hG
              clear HL
              go_wp2_with (first
                | (at_builtin; refine wpList_append_own _ rfl _ _ 52 rfl w.heap.size 9 i1 (.string ByteArray.empty) 1 16 Tryz.underlying52 hi' hy0 hy1 hy2 rfl (by decide) _ m (cellsS o) rfl (HQ.out.alloc _) ⟨wr.heap.size, 0, none⟩ 1 1 [.string ⟨f.toArray⟩] rfl rfl (one_newB _ _ _) (one_oneS _) (by unfold maxLen; omega) (by omega) (by have := HI.out.2.2.size; simp; omega) ?_; intro v' w3 hown' hgrow3 hnil3
                   have HJ : Hid (SpJ w w3 v' (.slice (some ⟨g5, 0, none⟩) n cap5) (o ++ [⟨f.toArray⟩]) f) := HI.out.field _ hgrow3 (by rw [hm]; exact hown')
                   clear hown' hgrow3 hnil3))
              have HR : Hid (w3.ownsRow w.heap.size 9 1 v' (o ++ [(⟨f.toArray⟩ : ByteArray)]).length (cellsS (o ++ [(⟨f.toArray⟩ : ByteArray)]))) := HJ.out.1
              have HB := HJ.out.2.2
              clear HQ HI HJ
              go_wp2_with fail
              go_ret2
              exact ⟨HB, _, rfl, HR.out⟩
            · have hG := HL.out.1 rfl
              subst hG
              clear HL
              go_wp2_with (first
                | (at_builtin; refine wpList_append_own _ rfl _ _ 52 rfl w.heap.size 9 i1 (.string ByteArray.empty) 1 16 Tryz.underlying52 hi' hy0 hy1 hy2 rfl (by decide) _ m (cellsS o) rfl (HQ.out.alloc _) ⟨wr.heap.size, 0, none⟩ 1 1 [.string ⟨f.toArray⟩] rfl rfl (one_newB _ _ _) (one_oneS _) (by unfold maxLen; omega) (by omega) (by have := HI.out.2.2.size; simp; omega) ?_; intro v' w3 hown' hgrow3 hnil3
                   have HJ : Hid (SpJ w w3 v' (.slice (some ⟨g5, 0, none⟩) n cap5) (o ++ [⟨f.toArray⟩]) f) := HI.out.field _ hgrow3 (by rw [hm]; exact hown')
                   clear hown' hgrow3 hnil3))
              have HB := HJ.out.2.2
              clear HQ HI HJ
              go_wp2_with fail
              go_ret2
              exact ⟨HB, _, rfl⟩

end Go.Proofs.YtgnfkkcagbbhmaaGreatDoor.Lin
