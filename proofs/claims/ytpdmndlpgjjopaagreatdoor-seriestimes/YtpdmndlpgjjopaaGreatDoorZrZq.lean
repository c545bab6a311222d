/- ZnL, ZnO, ZnP, ZnQ, ZnS, ZnR, as one text. -/
import Derived.Test.YtpdmndlpgjjopaaGreatDoorZmZq
/- Contracts: the reference's asked and At, way by way. -/
namespace Go.Proofs.YtpdmndlpgjjopaaGreatDoor
open Go.RowKit Sr
set_option linter.unusedVariables false

/-- how clocks stand behind the first i changes. -/
def curT (f : TrR) (L : List TrR) (i : Nat) : TrR := if i = 0 then f else L.getD (i - 1) f
theorem curT_succ {f x : TrR} {L : List TrR} {i : Nat} (h : L[i]? = some x) : curT f L (i + 1) = x := by
  unfold curT
  rw [if_neg (by omega), Nat.add_sub_cancel, List.getD_eq_getElem?_getD, h]; rfl
end Go.Proofs.YtpdmndlpgjjopaaGreatDoor

/- Contract: the reference's At, by the list of changes. -/
namespace Go.Proofs.YtpdmndlpgjjopaaGreatDoor
open Go.RowKit Sr
set_option linter.unusedVariables false

end Go.Proofs.YtpdmndlpgjjopaaGreatDoor

/- Contract: the reference's Right, where it is told ahead of the foot. -/
namespace Go.Proofs.YtpdmndlpgjjopaaGreatDoor
open Go.RowKit Sr
set_option linter.unusedVariables false

end Go.Proofs.YtpdmndlpgjjopaaGreatDoor

/- Contract: the reference's Right of a table with a foot, whose changes can be. -/
namespace Go.Proofs.YtpdmndlpgjjopaaGreatDoor
open Go.RowKit Sr
set_option linter.unusedVariables false

end Go.Proofs.YtpdmndlpgjjopaaGreatDoor

/- Contract: the reference's Right, where the first stand or the number of changes is wrong. -/
namespace Go.Proofs.YtpdmndlpgjjopaaGreatDoor
open Go.RowKit Sr
set_option linter.unusedVariables false

theorem rises_of : ∀ (L : List TrR), (∀ j p x, L[j]? = some p → L[j + 1]? = some x → p.at_ < x.at_) → Zm.Rises (L.map (·.at_))
  | [], _ => trivial
  | [_], _ => trivial
  | a :: b :: l, h => ⟨h 0 a b rfl rfl, rises_of (b :: l) (fun j p x hp hx => h (j + 1) p x hp hx)⟩
end Go.Proofs.YtpdmndlpgjjopaaGreatDoor

/- Contracts: zone.At and the reference's, whole: both answer the same, over what Right, YearAt and the foot answer. -/
namespace Go.Proofs.YtpdmndlpgjjopaaGreatDoor
open Go.RowKit Sr
set_option linter.unusedVariables false

/-- how clocks stand, and what is wrong. -/
def atP (b : Bool) (y : Int) (has : Bool) (fr t : Int) (f : TrR) (L : List TrR) (px : TrR) : TrR := if b = true then (if askY y = true then (if has = true ∧ fr ≤ t then px else curT f L (Zm.cntLe t (L.map (·.at_)))) else zTr) else zTr
def atE (b : Bool) (y : Int) : Int := if b = true then (if askY y = true then 0 else 10) else 1
abbrev trV (x : TrR) : Value := .agg #[.int .i64 x.at_, .int .i64 x.off, .bool x.dst, .string x.ab]
theorem cnt_get {t : Int} {L : List TrR} {k : Nat} (h : Zm.cntLe t (L.map (·.at_)) = k + 1) : ∃ x, L[k]? = some x := by
  have := Zm.cntLe_le t (L.map (·.at_))
  rw [List.length_map, h] at this
  exact ⟨_, List.getElem?_eq_getElem (by omega)⟩

theorem stand_any (nm : ByteArray) (f : TrR) (sv : Value) (FL : List Value) (hF : FL.length = 19) (has : Bool) (fr t : Int) (f0 : FL[0]? = some (.bool has)) (f1 : FL[1]? = some (.int .i64 fr)) (L : List TrR) (hr : Zm.Rises (L.map (·.at_))) (h4 : L.length ≤ 4096) (px : TrR) (er : Int) (w : World) (HT : TrAt w sv L)
    (FA : has = true → fr ≤ t → ∀ W : World, Below w.heap.size w W → Calls Tryz.prog 57 #[.agg FL.toArray, .int .i64 t] W fun r w' => r = .returned (.tuple #[trV px, .int .i64 er]) ∧ Below W.heap.size W w') :
    Calls Tryz.prog 97 #[.agg (tbF nm f sv FL).toArray, .int .i64 t] w fun r w' => r = .returned (trV (if has = true ∧ fr ≤ t then px else curT f L (Zm.cntLe t (L.map (·.at_))))) ∧ Below w.heap.size w w' := by
  have BH : ∀ W : World, Below w.heap.size w W → Calls Tryz.prog 113 #[.agg (tbF nm f sv FL).toArray, .int .i64 t] W fun r w' => r = .returned (.int .i64 (Zm.cntLe t (L.map (·.at_)) : Int)) ∧ Below W.heap.size W w' := fun W hb => behind_any _ (tbF_len hF) L sv rfl t hr h4 W (HT.mv hb)
  cases hc : Zm.cntLe t (L.map (·.at_)) with
  | zero =>
    rw [hc] at BH
    cases has with
    | false => rw [if_neg (fun q => absurd q.1 (by decide))]; exact stand_first_n nm f sv FL hF fr t f0 f1 w BH
    | true =>
      by_cases hy : fr ≤ t
      · rw [if_pos ⟨rfl, hy⟩]; exact stand_foot nm f sv FL hF fr t f0 f1 hy px er w (FA rfl hy)
      · rw [if_neg (fun q => hy q.2)]; exact stand_first_e nm f sv FL hF fr t f0 f1 hy w BH
  | succ k =>
    rw [hc] at BH
    obtain ⟨x, hx⟩ := cnt_get hc
    rw [curT_succ hx]
    cases has with
    | false => rw [if_neg (fun q => absurd q.1 (by decide))]; exact stand_tr_n nm f sv FL hF fr t f0 f1 L h4 k x hx w HT BH
    | true =>
      by_cases hy : fr ≤ t
      · rw [if_pos ⟨rfl, hy⟩]; exact stand_foot nm f sv FL hF fr t f0 f1 hy px er w (FA rfl hy)
      · rw [if_neg (fun q => hy q.2)]; exact stand_tr_e nm f sv FL hF fr t f0 f1 hy L h4 k x hx w HT BH

theorem zat_any (nm : ByteArray) (f : TrR) (sv : Value) (FL : List Value) (hF : FL.length = 19) (has : Bool) (fr t : Int) (f0 : FL[0]? = some (.bool has)) (f1 : FL[1]? = some (.int .i64 fr)) (L : List TrR) (b : Bool) (hr : b = true → Zm.Rises (L.map (·.at_)) ∧ L.length ≤ 4096) (y : Int) (px : TrR) (er : Int) (w : World) (HT : TrAt w sv L)
    (RT : ∀ W : World, Below w.heap.size w W → Calls Tryz.prog 16 #[.agg (tbF nm f sv FL).toArray] W fun r w' => r = .returned (.bool b) ∧ Below W.heap.size W w')
    (YA : ∀ W : World, Below w.heap.size w W → Calls Tryz.prog 56 #[.int .i64 t] W fun r w' => r = .returned (.int .i64 y) ∧ w' = W)
    (FA : b = true → askY y = true → has = true → fr ≤ t → ∀ W : World, Below w.heap.size w W → Calls Tryz.prog 57 #[.agg FL.toArray, .int .i64 t] W fun r w' => r = .returned (.tuple #[trV px, .int .i64 er]) ∧ Below W.heap.size W w') :
    Calls Tryz.prog 77 #[.agg (tbF nm f sv FL).toArray, .int .i64 t] w fun r w' => r = .returned (.tuple #[trV (atP b y has fr t f L px), .int .i64 (atE b y)]) ∧ Below w.heap.size w w' := by
  unfold atP atE
  cases b with
  | false => rw [if_neg (by decide), if_neg (by decide)]; exact zat_no _ (tbF_len hF) t w RT
  | true =>
    rw [if_pos rfl, if_pos rfl]
    have AS : ∀ W : World, Below w.heap.size w W → Calls Tryz.prog 96 #[.int .i64 t] W fun r w' => r = .returned (.bool (askY y)) ∧ w' = W := fun W hb => asked_any t y W (YA W hb)
    cases ha : askY y with
    | false => rw [ha] at AS; rw [if_neg (by decide), if_neg (by decide)]; exact zat_range _ (tbF_len hF) t w RT AS
    | true =>
      rw [ha] at AS
      rw [if_pos rfl, if_pos rfl]
      obtain ⟨hr1, hr2⟩ := hr rfl
      exact zat_yes _ (tbF_len hF) t _ w RT AS (fun W hb => stand_any nm f sv FL hF has fr t f0 f1 L hr1 hr2 px er W (HT.mv hb) (fun h1 h2 W' hb' => FA rfl ha h1 h2 W' (hb.trans (hb'.mono hb.size))))

end Go.Proofs.YtpdmndlpgjjopaaGreatDoor
