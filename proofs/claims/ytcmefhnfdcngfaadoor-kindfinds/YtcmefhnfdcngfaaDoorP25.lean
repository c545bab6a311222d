import Derived.Test.YtcmefhnfdcngfaaDoorP10
import Derived.Test.YtcmefhnfdcngfaaDoorP24
/- kind.rowsOf: the kinds of each row of a text. -/
namespace Go.Proofs.YtcmefhnfdcngfaaDoor
open Go.RowKit
set_option linter.unusedVariables false

theorem infoI : (Tryd.prog.info? 3).map (fun i => (i.zero, i.size, i.bytes)) = some (some (.int .i64 0), 1, 8) := by kernel_rfl
theorem infoIS : (Tryd.prog.info? 22).map (fun i => (i.zero, i.size, i.bytes)) = some (some (.slice none 0 0), 1, 24) := by kernel_rfl
theorem own_keepB {w W : World} {base : Nat} {e : TypeId} {size : Nat} {v : Value} {n : Nat} {xs : List Value} (h : w.ownsRow base e size v n xs) (hk : ∀ c, v.ownBlock = some c → c < w.heap.size → W.heap[c]? = w.heap[c]?) : W.ownsRow base e size v n xs := by
  obtain ⟨h1, h2⟩ := h
  refine ⟨h1, ?_⟩
  rcases h2 with h2 | ⟨g, cap, cur, a, b, c, d⟩
  · exact .inl h2
  · exact .inr ⟨g, cap, cur, a, b, (hk g (by rw [a]; rfl) (Array.getElem?_eq_some_iff.1 c).1).trans c, d⟩

/-- numbers as they lie in memory. -/
def inC (l : List Int) : List Value := l.map (fun x => .int .i64 x)
/-- this value is a row of these numbers, in a block of which X holds. -/
def IX (X : Nat → Prop) (w : World) (v : Value) (l : List Int) : Prop :=
  ∃ p cap, v = .slice p l.length cap ∧ l.length ≤ cap ∧ cap ≤ maxLen ∧ ∀ j x, l[j]? = some x → ∃ b, p = some ⟨b, 0, none⟩ ∧ X b ∧ b < w.heap.size ∧ w.cell? ⟨b, j, none⟩ = some (.int .i64 x)
theorem IX.ir {X : Nat → Prop} {w : World} {v : Value} {l : List Int} (h : IX X w v l) : IR w v l := by
  obtain ⟨p, cap, e, h1, h2, h3⟩ := h
  exact ⟨p, cap, e, h1, h2, fun j x hx => by obtain ⟨b, e1, e2, e3, e4⟩ := h3 j x hx; exact ⟨b, 0, e1, e3, by rw [Nat.zero_add]; exact e4⟩⟩
theorem IX.keep {X Y : Nat → Prop} {w W : World} {v : Value} {l : List Int} (h : IX X w v l) (hs : w.heap.size ≤ W.heap.size) (hk : ∀ b, X b → b < w.heap.size → Y b ∧ W.heap[b]? = w.heap[b]?) : IX Y W v l := by
  obtain ⟨p, cap, e, h1, h2, h3⟩ := h
  exact ⟨p, cap, e, h1, h2, fun j x hx => by
    obtain ⟨b, e1, e2, e3, e4⟩ := h3 j x hx
    exact ⟨b, e1, (hk b e2 e3).1, Nat.lt_of_lt_of_le e3 hs, (World.cell?_of_block (w := w) (a := ⟨b, j, none⟩) (hk b e2 e3).2).trans e4⟩⟩
theorem IX.own {w : World} {base : Nat} {v : Value} {l : List Int} (h : w.ownsRow base 3 1 v l.length (inC l)) (hm : l.length ≤ maxLen) : IX (fun c => base ≤ c ∧ v.ownBlock = some c) w v l := by
  rcases h.2 with ⟨rfl, h0⟩ | ⟨g, cap, cur, rfl, h1, h2, h3, h4, h5, h6⟩
  · obtain rfl : l = [] := List.length_eq_zero_iff.1 h0
    exact ⟨none, 0, rfl, Nat.le_refl _, by simp, fun j x hx => by simp at hx⟩
  · refine ⟨some ⟨g, 0, none⟩, cap, rfl, h3, h4, fun j x hx => ⟨g, rfl, ⟨h1, rfl⟩, (Array.getElem?_eq_some_iff.1 h2).1, ?_⟩⟩
    have hj := (List.getElem?_eq_some_iff.1 hx).1
    rw [h.cellAt j (by omega)]
    show (l.map _)[j]? = _
    rw [List.getElem?_map, hx]; rfl

/-- rows of numbers. -/
def SS (X : Nat → Prop) (w : World) : List (List Int) → List Value → Prop
  | [], xs => xs = []
  | l :: L, xs => ∃ v ys, xs = v :: ys ∧ IX X w v l ∧ SS X w L ys
theorem SS.keep {X Y : Nat → Prop} {w W : World} (hs : w.heap.size ≤ W.heap.size) (hk : ∀ b, X b → b < w.heap.size → Y b ∧ W.heap[b]? = w.heap[b]?) : ∀ (L : List (List Int)) (xs : List Value), SS X w L xs → SS Y W L xs
  | [], xs, h => h
  | l :: L, xs, ⟨v, ys, e, h1, h2⟩ => ⟨v, ys, e, h1.keep hs hk, SS.keep hs hk L ys h2⟩
theorem SS.snoc {X : Nat → Prop} {w : World} {l : List Int} {v : Value} (hv : IX X w v l) : ∀ (L : List (List Int)) (xs : List Value), SS X w L xs → SS X w (L ++ [l]) (xs ++ [v])
  | [], xs, h => by rw [show xs = [] from h]; exact ⟨v, [], rfl, hv, rfl⟩
  | m :: L, xs, ⟨u, ys, e, h1, h2⟩ => by rw [e]; exact ⟨u, ys ++ [v], rfl, h1, SS.snoc hv L ys h2⟩
theorem SS.len {X : Nat → Prop} {w : World} : ∀ (L : List (List Int)) (xs : List Value), SS X w L xs → xs.length = L.length
  | [], xs, h => by rw [show xs = [] from h]; rfl
  | l :: L, xs, ⟨v, ys, e, h1, h2⟩ => by rw [e]; simp [SS.len L ys h2]
theorem SS.get {X : Nat → Prop} {w : World} : ∀ (L : List (List Int)) (xs : List Value) (j : Nat) (l : List Int), SS X w L xs → L[j]? = some l → ∃ v, xs[j]? = some v ∧ IX X w v l
  | [], xs, j, l, h, e => by simp at e
  | m :: L, xs, 0, l, ⟨v, ys, e, h1, h2⟩, e1 => by simp at e1; subst e1; exact ⟨v, by rw [e]; rfl, h1⟩
  | m :: L, xs, j + 1, l, ⟨v, ys, e, h1, h2⟩, e1 => by
    obtain ⟨u, q1, q2⟩ := SS.get L ys j l h2 (by simpa using e1)
    exact ⟨u, by rw [e]; simpa using q1, q2⟩

/-- the rows so far, and the row at hand. -/
structure KR (w : World) (t : ByteArray) (i : Nat) (A : List (List Int)) (R : List Int) (va vr : Value) (xs : List Value) (V : World) : Prop where
  low : Below w.heap.size w V
  it : V.heap[w.heap.size]? = some (.stringIter t i)
  own : V.ownsRow (w.heap.size + 1) 22 1 va A.length xs
  all : SS (fun c => w.heap.size + 1 ≤ c ∧ va.ownBlock ≠ some c ∧ vr.ownBlock ≠ some c) V A xs
  row : V.ownsRow (w.heap.size + 1) 3 1 vr R.length (inC R)
  apart : ∀ c, va.ownBlock = some c → vr.ownBlock ≠ some c
theorem KR.lt {w : World} {t : ByteArray} {i : Nat} {A : List (List Int)} {R : List Int} {va vr : Value} {xs : List Value} {V : World} (h : KR w t i A R va vr xs V) : w.heap.size < V.heap.size := (Array.getElem?_eq_some_iff.1 h.it).1
theorem KR.below {w : World} {t : ByteArray} {i : Nat} {A : List (List Int)} {R : List Int} {va vr : Value} {xs : List Value} {V V' : World} (h : KR w t i A R va vr xs V) (hb : Below V.heap.size V V') : KR w t i A R va vr xs V' :=
  ⟨h.low.trans (hb.mono h.low.size), (hb.block _ h.lt).trans h.it, ownsRow_keep h.own (fun c _ hl => hb.block c hl), SS.keep hb.size (fun c hc hl => ⟨hc, hb.block c hl⟩) _ _ h.all, ownsRow_keep h.row (fun c _ hl => hb.block c hl), h.apart⟩
/-- the iterator goes on. -/
theorem KR.step {w : World} {t : ByteArray} {i : Nat} {A : List (List Int)} {R : List Int} {va vr : Value} {xs : List Value} {V : World} (h : KR w t i A R va vr xs V) (j : Nat) : KR w t j A R va vr xs (V.iterAt w.heap.size t j) := by
  have hz : (V.iterAt w.heap.size t j).heap.size = V.heap.size := Lib.iterAt_size _ _ _ _
  have hk : ∀ c, c ≠ w.heap.size → (V.iterAt w.heap.size t j).heap[c]? = V.heap[c]? := fun c hc => Lib.iterAt_other _ _ _ _ _ hc
  exact ⟨Lib.below_iterAt h.low (k := w.heap.size) (Nat.le_refl _) t j, Lib.iterAt_heap V w.heap.size t i j h.it, ownsRow_keep h.own (fun c h1 _ => hk c (by omega)), SS.keep (by omega) (fun c hc _ => ⟨hc, hk c (by omega)⟩) _ _ h.all, ownsRow_keep h.row (fun c h1 _ => hk c (by omega)), h.apart⟩
/-- a number more in the row. -/
theorem KR.more {w : World} {t : ByteArray} {i : Nat} {A : List (List Int)} {R : List Int} {va vr vr' : Value} {xs : List Value} {V V' : World} {k : Int} (h : KR w t i A R va vr xs V) (hgr : V.grownBy V' vr.ownBlock)
    (hnew : ∀ c, vr'.ownBlock = some c → vr.ownBlock = some c ∨ c = V.heap.size) (hown : V'.ownsRow (w.heap.size + 1) 3 1 vr' (R.length + 1) (inC R ++ [.int .i64 k])) : KR w t i A (R ++ [k]) va vr' xs V' := by
  have hr : ∀ c, vr.ownBlock = some c → w.heap.size + 1 ≤ c ∧ c < V.heap.size := fun c hc => ob_lt h.row hc
  have hv : ∀ c, va.ownBlock = some c → w.heap.size + 1 ≤ c ∧ c < V.heap.size := fun c hc => ob_lt h.own hc
  have hl := h.lt
  refine ⟨⟨hgr.os.trans h.low.os, hgr.tape.trans h.low.tape, hgr.output.trans h.low.output, Nat.le_trans h.low.size hgr.size, fun c hc => (hgr.block c (by omega) (fun e => by have := hr c e.symm; omega)).trans (h.low.block c hc)⟩,
    (hgr.block _ hl (fun e => by have := hr _ e.symm; omega)).trans h.it,
    own_keepB h.own (fun c hc hl => hgr.block c hl (fun e => h.apart c hc e.symm)),
    SS.keep hgr.size (fun c hc hl => ⟨⟨hc.1, hc.2.1, fun e => (hnew c e).elim hc.2.2 (fun q => by omega)⟩, hgr.block c hl (fun e => hc.2.2 e.symm)⟩) _ _ h.all, ?_,
    fun c hc e => (hnew c e).elim (h.apart c hc) (fun q => by have := hv c hc; omega)⟩
  rw [List.length_append]; unfold inC at hown ⊢; rw [List.map_append]; exact hown
/-- the row is one of the rows. -/
theorem KR.push {w : World} {t : ByteArray} {i : Nat} {A : List (List Int)} {R : List Int} {va va' vr : Value} {xs : List Value} {V V' : World} (h : KR w t i A R va vr xs V) (hm : R.length ≤ maxLen) (hgr : V.grownBy V' va.ownBlock)
    (hnew : ∀ c, va'.ownBlock = some c → va.ownBlock = some c ∨ c = V.heap.size) (hown : V'.ownsRow (w.heap.size + 1) 22 1 va' (A.length + 1) (xs ++ [vr])) : KR w t i (A ++ [R]) [] va' (.slice none 0 0) (xs ++ [vr]) V' := by
  have hr : ∀ c, vr.ownBlock = some c → w.heap.size + 1 ≤ c ∧ c < V.heap.size := fun c hc => ob_lt h.row hc
  have hv : ∀ c, va.ownBlock = some c → w.heap.size + 1 ≤ c ∧ c < V.heap.size := fun c hc => ob_lt h.own hc
  have hl := h.lt
  have q1 : SS (fun c => w.heap.size + 1 ≤ c ∧ va.ownBlock ≠ some c) V A xs := SS.keep (Nat.le_refl _) (fun c hc _ => ⟨⟨hc.1, hc.2.1⟩, rfl⟩) _ _ h.all
  have q2 : IX (fun c => w.heap.size + 1 ≤ c ∧ va.ownBlock ≠ some c) V vr R := (IX.own h.row hm).keep (Nat.le_refl _) (fun c hc _ => ⟨⟨hc.1, fun e => h.apart c e hc.2⟩, rfl⟩)
  refine ⟨⟨hgr.os.trans h.low.os, hgr.tape.trans h.low.tape, hgr.output.trans h.low.output, Nat.le_trans h.low.size hgr.size, fun c hc => (hgr.block c (by omega) (fun e => by have := hv c e.symm; omega)).trans (h.low.block c hc)⟩,
    (hgr.block _ hl (fun e => by have := hv _ e.symm; omega)).trans h.it,
    by rw [List.length_append]; exact hown,
    SS.keep hgr.size (fun c hc hl => ⟨⟨hc.1, fun e => (hnew c e).elim hc.2 (fun q => by omega), fun e => by cases e⟩, hgr.block c hl (fun e => hc.2 e.symm)⟩) _ _ (SS.snoc q2 _ _ q1), World.ownsRow_nil _ _ _ _, fun c _ e => by cases e⟩

theorem rr_next {t : ByteArray} {i : Nat} (hi : i < t.size) : rru t (i + 1) = rst t (rru t i) i (t[i]'hi).toNat := by
  rw [rru]
  congr 2
  rw [List.getD_eq_getElem?_getD, List.getElem?_eq_getElem (show i < t.data.toList.length by simpa using hi)]
  simp [ByteArray.getElem_eq_getElem_data]

set_option maxRecDepth 100000 in
set_option maxHeartbeats 4000000 in
theorem rows_any (t : ByteArray) (hz : t.size ≤ 1000) (ha : ascB t = true) (w : World) (hk : Kn w) :
    Calls Tryd.prog 18 #[.string t] w fun e w' => Below w.heap.size w w' ∧ ∃ sq sn sc xs, e = .returned (.slice sq sn sc) ∧ w'.ownsRow w.heap.size 22 1 (.slice sq sn sc) (rowsF t).length xs ∧ SS (fun c => w.heap.size ≤ c) w' (rowsF t) xs := by
  have hasc : ∀ i (hi : i < t.size), (t[i]'hi).toNat < 128 := fun i hi => by
    have := List.all_eq_true.1 ha (t[i]'hi) (by rw [ByteArray.getElem_eq_getElem_data]; simp)
    simpa using this
  have HK : Hid (Kn w) := hk
  have HA : Hid _ := hasc
  obtain ⟨i0, hi0, iz0, iz1, iz2⟩ := info_parts infoI
  obtain ⟨i1, hi1, jz0, jz1, jz2⟩ := info_parts infoIS
  have hzI : (t.size : Int) ≤ 1000 := by omega
  clear hk ha hasc
  go_enter Tryd.func18, Tryd.ntmps18
  go_wp2_with fail
  go_loopw [3, 4, 5] (fun va vr vb W => ∃ (i : Nat) (aq : Option Addr) (an ac : Nat) (rq : Option Addr) (rn rc : Nat) (xs : List Value), i ≤ t.size ∧ va = .slice aq an ac ∧ vr = .slice rq rn rc ∧ vb = .int .i64 ((rru t i).beg : Nat) ∧ Hid (KR w t i (rru t i).all (rru t i).row (.slice aq an ac) (.slice rq rn rc) xs W)) (fun _ _ _ W => t.size - W.iterPos w.heap.size)
  case atStart =>
    refine ⟨0, none, 0, 0, none, 0, 0, [], Nat.zero_le _, rfl, rfl, rfl, ?_⟩
    refine ⟨(Below.refl _ w).alloc (Nat.le_refl _) _, World.iter_heap w t 0, World.ownsRow_nil _ _ _ _, rfl, World.ownsRow_nil _ _ _ _, fun c e => by cases e⟩
  case round =>
    obtain ⟨i, aq, an, ac, rq, rn, rc, xs, hi, rfl, rfl, rfl, HR⟩ := hrel
    have hpos0 := iterPos_eq HR.out.it
    by_cases hp : i < t.size
    · obtain ⟨S, hS⟩ : ∃ S, rru t i = S := ⟨_, rfl⟩
      have hbeg := rru_beg t i
      obtain ⟨hlen1, hlen2⟩ := rru_len t i
      have hnext := rr_next hp
      rw [hS] at hbeg hlen1 hlen2 hnext
      have hnx : ∀ ty, (Instr.next (.pointer (some ⟨w.heap.size, 0, none⟩)) true ty).run Tryd.prog wr = _ := fun ty => Lib.run_next_ascii_at wr w.heap.size t i ty HR.out.it hp (HA.out i hp)
      have HR1 : Hid (KR w t (i + 1) S.all S.row (.slice aq an ac) (.slice rq rn rc) xs (wr.iterAt w.heap.size t (i + 1))) := by have := HR.out.step (i + 1); rw [hS] at this; exact this
      obtain ⟨W1, hW1⟩ : ∃ W1, W1 = wr.iterAt w.heap.size t (i + 1) := ⟨_, rfl⟩
      rw [← hW1] at HR1 hnx
      clear hW1 HR
      have hc128 := HA.out i hp
      obtain ⟨c, hc⟩ : ∃ c : Nat, (t[i]'hp).toNat = c := ⟨_, rfl⟩
      rw [hc] at hnx hc128 hnext
      rw [hS]
      clear hc
      have hcI0 : (0 : Int) ≤ (c : Int) := by omega
      have hcI1 : (c : Int) < 128 := by omega
      have hiI : (i : Int) < (t.size : Int) := by omega
      have hiI0 : (0 : Int) ≤ (i : Int) := by omega
      have hbI0 : (0 : Int) ≤ (S.beg : Int) := by omega
      have hbI : (S.beg : Int) ≤ (i : Int) := by omega
      have hiw : IntKind.i64.wrap ((i : Int) + 1) = (i : Int) + 1 := by rw [IntKind.wrap_i64]; omega
      by_cases hl : 97 ≤ c ∧ c ≤ 122
      · have hst : rru t (i + 1) = S := by rw [hnext]; exact if_pos hl
        clear hnext
        go_wp2_with fail
        refine (letter_any (c : Int) W1).mono ?_
        rw [decide_eq_true (show (97 ≤ (c : Int) ∧ (c : Int) ≤ 122) by omega)]
        rintro e V ⟨rfl, hb⟩
        have HV : Hid (KR w t (i + 1) S.all S.row (.slice aq an ac) (.slice rq rn rc) xs V) := HR1.out.below hb
        clear hb HR1 hnx
        have HF : Hid _ := HV
        clear HV
        go_wp2_with fail
        go_roundw
        case rel => exact ⟨i + 1, aq, an, ac, rq, rn, rc, xs, by omega, rfl, rfl, by rw [hst] <;> first | rfl | simp, by rw [hst]; exact HF⟩
        case measure => rw [hpos0, iterPos_eq HF.out.it]; omega
      · by_cases hb : S.beg < i
        · have hbq : (S.beg : Int) < (i : Int) := by omega
          have hrw : rwN t S i = S.row ++ [kdF (t.extract S.beg i)] := if_pos hb
          by_cases h59 : c = 59
          · have hst : rru t (i + 1) = ⟨S.all ++ [rwN t S i], [], i + 1⟩ := by rw [hnext]; unfold rst; rw [if_neg hl, if_pos h59]
            have hg59 : ((c : Int) == 59) = true := by simp; omega
            rw [hrw] at hst
            clear hnext hrw
            go_wp2_with fail
            refine (letter_any (59 : Int) W1).mono ?_
            rw [decide_eq_false (show ¬ (97 ≤ (59 : Int) ∧ (59 : Int) ≤ 122) by omega)]
            rintro e V ⟨rfl, hb⟩
            have HV : Hid (KR w t (i + 1) S.all S.row (.slice aq an ac) (.slice rq rn rc) xs V) := HR1.out.below hb
            clear hb HR1 hnx
            go_wp2_with fail
            refine (kind_any _ V (HK.out.below HV.out.low)).mono ?_
            rintro e V2 ⟨rfl, hb⟩
            obtain ⟨k, hkk⟩ : ∃ k, kdF (t.extract S.beg i) = k := ⟨_, rfl⟩
            have HV2 : Hid (KR w t (i + 1) S.all S.row (.slice aq an ac) (.slice rq rn rc) xs (V2.alloc (.cells #[.int .i64 k] 3))) := (HV.out.below hb).below ((Below.refl _ V2).alloc (Nat.le_refl _) _)
            have HX : Hid (Bx (V2.alloc (.cells #[.int .i64 k] 3)) V2.heap.size [.int .i64 k]) := Bx.new V2 [.int .i64 k] 3
            clear hb HV
            rw [hkk]
            go_wp2_with (at_builtin; refine Hid.out ?_)
            unfold Hid
            refine wpl_append_new rfl _ _ 22 rfl (w.heap.size + 1) 3 i0 (.int .i64 0) 1 8 Tryd.underlying22 hi0 iz0 iz1 iz2 rfl (by decide) _ S.row.length (inC S.row) rfl HV2.out.row ⟨V2.heap.size, 0, none⟩ 1 [.int .i64 k] rfl rfl (fun j u hj => by rw [show (⟨V2.heap.size, 0, none⟩ : Addr).add j = ⟨V2.heap.size, j, none⟩ from by rw [Addr.add_lit]; simp]; exact (HX.out.2 j u hj).1) (by intro u hu; simp at hu; subst hu; rfl) (by unfold maxLen; omega) (by omega) (by have := HV2.out.lt; omega) ?_
            intro v' w4 hown' hgrow hnew
            obtain ⟨sq', sn', sc', hv'⟩ := own_form hown'
            subst hv'
            have HW : Hid (KR w t (i + 1) S.all (S.row ++ [k]) (.slice aq an ac) (.slice sq' sn' sc') xs w4) := HV2.out.more hgrow hnew hown'
            clear hown' hgrow hnew HV2 HX
            rw [hkk] at hst
            have HV3 : Hid (KR w t (i + 1) S.all (S.row ++ [k]) (.slice aq an ac) (.slice sq' sn' sc') xs (w4.alloc (.cells #[.slice sq' sn' sc'] 22))) := HW.out.below ((Below.refl _ w4).alloc (Nat.le_refl _) _)
            have HX : Hid (Bx (w4.alloc (.cells #[.slice sq' sn' sc'] 22)) w4.heap.size [.slice sq' sn' sc']) := Bx.new w4 [.slice sq' sn' sc'] 22
            clear HW
            go_wp2_with (at_builtin; refine Hid.out ?_)
            unfold Hid
            refine wpl_append_new rfl _ _ 44 rfl (w.heap.size + 1) 22 i1 (.slice none 0 0) 1 24 Tryd.underlying44 hi1 jz0 jz1 jz2 rfl (by decide) _ S.all.length xs rfl HV3.out.own ⟨w4.heap.size, 0, none⟩ 1 [.slice sq' sn' sc'] rfl rfl (fun j u hj => by rw [show (⟨w4.heap.size, 0, none⟩ : Addr).add j = ⟨w4.heap.size, j, none⟩ from by rw [Addr.add_lit]; simp]; exact (HX.out.2 j u hj).1) (by intro u hu; simp at hu; subst hu; rfl) (by unfold maxLen; omega) (by omega) (by have := HV3.out.lt; omega) ?_
            intro v' w5 hown' hgrow hnew
            obtain ⟨aq', an', ac', hv'⟩ := own_form hown'
            subst hv'
            have HF : Hid (KR w t (i + 1) (S.all ++ [(S.row ++ [k])]) [] (.slice aq' an' ac') (.slice none 0 0) (xs ++ [.slice sq' sn' sc']) w5) := HV3.out.push (by rw [List.length_append]; unfold maxLen; simp; omega) hgrow hnew hown'
            clear hown' hgrow hnew HV3 HX
            go_wp2_with fail
            go_roundw
            case rel => exact ⟨i + 1, aq', an', ac', none, 0, 0, xs ++ [.slice sq' sn' sc'], by omega, rfl, rfl, by rw [hst] <;> first | rfl | simp, by rw [hst]; exact HF⟩
            case measure => rw [hpos0, iterPos_eq HF.out.it]; omega
          · have hst : rru t (i + 1) = ⟨S.all, rwN t S i, i + 1⟩ := by rw [hnext]; unfold rst; rw [if_neg hl, if_neg h59]
            have hg59 : ((c : Int) == 59) = false := by simp; omega
            rw [hrw] at hst
            clear hnext hrw
            go_wp2_with fail
            refine (letter_any (c : Int) W1).mono ?_
            rw [decide_eq_false (show ¬ (97 ≤ (c : Int) ∧ (c : Int) ≤ 122) by omega)]
            rintro e V ⟨rfl, hb⟩
            have HV : Hid (KR w t (i + 1) S.all S.row (.slice aq an ac) (.slice rq rn rc) xs V) := HR1.out.below hb
            clear hb HR1 hnx
            go_wp2_with fail
            refine (kind_any _ V (HK.out.below HV.out.low)).mono ?_
            rintro e V2 ⟨rfl, hb⟩
            obtain ⟨k, hkk⟩ : ∃ k, kdF (t.extract S.beg i) = k := ⟨_, rfl⟩
            have HV2 : Hid (KR w t (i + 1) S.all S.row (.slice aq an ac) (.slice rq rn rc) xs (V2.alloc (.cells #[.int .i64 k] 3))) := (HV.out.below hb).below ((Below.refl _ V2).alloc (Nat.le_refl _) _)
            have HX : Hid (Bx (V2.alloc (.cells #[.int .i64 k] 3)) V2.heap.size [.int .i64 k]) := Bx.new V2 [.int .i64 k] 3
            clear hb HV
            rw [hkk]
            go_wp2_with (at_builtin; refine Hid.out ?_)
            unfold Hid
            refine wpl_append_new rfl _ _ 22 rfl (w.heap.size + 1) 3 i0 (.int .i64 0) 1 8 Tryd.underlying22 hi0 iz0 iz1 iz2 rfl (by decide) _ S.row.length (inC S.row) rfl HV2.out.row ⟨V2.heap.size, 0, none⟩ 1 [.int .i64 k] rfl rfl (fun j u hj => by rw [show (⟨V2.heap.size, 0, none⟩ : Addr).add j = ⟨V2.heap.size, j, none⟩ from by rw [Addr.add_lit]; simp]; exact (HX.out.2 j u hj).1) (by intro u hu; simp at hu; subst hu; rfl) (by unfold maxLen; omega) (by omega) (by have := HV2.out.lt; omega) ?_
            intro v' w4 hown' hgrow hnew
            obtain ⟨sq', sn', sc', hv'⟩ := own_form hown'
            subst hv'
            have HW : Hid (KR w t (i + 1) S.all (S.row ++ [k]) (.slice aq an ac) (.slice sq' sn' sc') xs w4) := HV2.out.more hgrow hnew hown'
            clear hown' hgrow hnew HV2 HX
            rw [hkk] at hst
            have HF : Hid _ := HW
            clear HW
            go_wp2_with fail
            go_roundw
            case rel => exact ⟨i + 1, aq, an, ac, sq', sn', sc', xs, by omega, rfl, rfl, by rw [hst] <;> first | rfl | simp, by rw [hst]; exact HF⟩
            case measure => rw [hpos0, iterPos_eq HF.out.it]; omega
        · have hbq : ¬ (S.beg : Int) < (i : Int) := by omega
          have hrw : rwN t S i = S.row := if_neg hb
          by_cases h59 : c = 59
          · have hst : rru t (i + 1) = ⟨S.all ++ [rwN t S i], [], i + 1⟩ := by rw [hnext]; unfold rst; rw [if_neg hl, if_pos h59]
            have hg59 : ((c : Int) == 59) = true := by simp; omega
            rw [hrw] at hst
            clear hnext hrw
            go_wp2_with fail
            refine (letter_any (59 : Int) W1).mono ?_
            rw [decide_eq_false (show ¬ (97 ≤ (59 : Int) ∧ (59 : Int) ≤ 122) by omega)]
            rintro e V ⟨rfl, hb⟩
            have HV : Hid (KR w t (i + 1) S.all S.row (.slice aq an ac) (.slice rq rn rc) xs V) := HR1.out.below hb
            clear hb HR1 hnx
            have HW : Hid _ := HV
            clear HV
            have HV3 : Hid (KR w t (i + 1) S.all S.row (.slice aq an ac) (.slice rq rn rc) xs (V.alloc (.cells #[.slice rq rn rc] 22))) := HW.out.below ((Below.refl _ V).alloc (Nat.le_refl _) _)
            have HX : Hid (Bx (V.alloc (.cells #[.slice rq rn rc] 22)) V.heap.size [.slice rq rn rc]) := Bx.new V [.slice rq rn rc] 22
            clear HW
            go_wp2_with (at_builtin; refine Hid.out ?_)
            unfold Hid
            refine wpl_append_new rfl _ _ 44 rfl (w.heap.size + 1) 22 i1 (.slice none 0 0) 1 24 Tryd.underlying44 hi1 jz0 jz1 jz2 rfl (by decide) _ S.all.length xs rfl HV3.out.own ⟨V.heap.size, 0, none⟩ 1 [.slice rq rn rc] rfl rfl (fun j u hj => by rw [show (⟨V.heap.size, 0, none⟩ : Addr).add j = ⟨V.heap.size, j, none⟩ from by rw [Addr.add_lit]; simp]; exact (HX.out.2 j u hj).1) (by intro u hu; simp at hu; subst hu; rfl) (by unfold maxLen; omega) (by omega) (by have := HV3.out.lt; omega) ?_
            intro v' w5 hown' hgrow hnew
            obtain ⟨aq', an', ac', hv'⟩ := own_form hown'
            subst hv'
            have HF : Hid (KR w t (i + 1) (S.all ++ [S.row]) [] (.slice aq' an' ac') (.slice none 0 0) (xs ++ [.slice rq rn rc]) w5) := HV3.out.push (by unfold maxLen; omega) hgrow hnew hown'
            clear hown' hgrow hnew HV3 HX
            go_wp2_with fail
            go_roundw
            case rel => exact ⟨i + 1, aq', an', ac', none, 0, 0, xs ++ [.slice rq rn rc], by omega, rfl, rfl, by rw [hst] <;> first | rfl | simp, by rw [hst]; exact HF⟩
            case measure => rw [hpos0, iterPos_eq HF.out.it]; omega
          · have hst : rru t (i + 1) = ⟨S.all, rwN t S i, i + 1⟩ := by rw [hnext]; unfold rst; rw [if_neg hl, if_neg h59]
            have hg59 : ((c : Int) == 59) = false := by simp; omega
            rw [hrw] at hst
            clear hnext hrw
            go_wp2_with fail
            refine (letter_any (c : Int) W1).mono ?_
            rw [decide_eq_false (show ¬ (97 ≤ (c : Int) ∧ (c : Int) ≤ 122) by omega)]
            rintro e V ⟨rfl, hb⟩
            have HV : Hid (KR w t (i + 1) S.all S.row (.slice aq an ac) (.slice rq rn rc) xs V) := HR1.out.below hb
            clear hb HR1 hnx
            have HW : Hid _ := HV
            clear HV
            have HF : Hid _ := HW
            clear HW
            go_wp2_with fail
            go_roundw
            case rel => exact ⟨i + 1, aq, an, ac, rq, rn, rc, xs, by omega, rfl, rfl, by rw [hst] <;> first | rfl | simp, by rw [hst]; exact HF⟩
            case measure => rw [hpos0, iterPos_eq HF.out.it]; omega
    · obtain rfl : i = t.size := by omega
      have hnx : ∀ ty, (Instr.next (.pointer (some ⟨w.heap.size, 0, none⟩)) true ty).run Tryd.prog wr = _ := fun ty => Lib.run_next_end_at wr w.heap.size t t.size ty HR.out.it (by omega)
      go_wp2
      exact bodyPost_ret (v := .slice aq an ac) (by simp [results, Tryd.results18, go_sem]) rfl ⟨HR.out.low, aq, an, ac, xs, rfl, ownsRow_lower HR.out.own (by omega), SS.keep (Nat.le_refl _) (fun c hc _ => ⟨by omega, rfl⟩) _ _ HR.out.all⟩

end Go.Proofs.YtcmefhnfdcngfaaDoor
