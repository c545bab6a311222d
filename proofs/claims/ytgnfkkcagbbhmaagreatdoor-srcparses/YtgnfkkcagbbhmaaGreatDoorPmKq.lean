/- Contracts put together: takeRule, takeLink, takeZone, goOn of src's parser, over what the fields say. -/
import Derived.Test.YtgnfkkcagbbhmaaGreatDoorPmJq
namespace Go.Proofs.YtgnfkkcagbbhmaaGreatDoor
open Go.RowKit
set_option linter.unusedVariables false

/-- what a line's taking leaves: an error, or the parser with the line taken. -/
def TkO (w : World) (g m B : Nat) (V : World) (e : Ending) (W' : World) : Sum Int PSt → Prop
  | .inl c => e = .returned (.int .i64 c) ∧ Below V.heap.size V W'
  | .inr S' => e = .returned (.int .i64 0) ∧ ∃ vr' vl' ve' vz' vs', PM w g m B S' vr' vl' ve' vz' vs' W'
theorem TkO.val {w : World} {g m B : Nat} {V : World} {e : Ending} {W' : World} {r : Sum Int PSt} (h : TkO w g m B V e W' r) : ∃ k, e = .returned (.int .i64 k) := by
  cases r with
  | inl c => exact ⟨c, h.1⟩
  | inr S => exact ⟨0, h.1⟩
theorem TkO.up {w : World} {g m B : Nat} {V V2 : World} {e : Ending} {W' : World} {r : Sum Int PSt} (h : TkO w g m B V2 e W' r) (hb : Below V.heap.size V V2) : TkO w g m B V e W' r := by
  cases r with
  | inl c => exact ⟨h.1, hb.trans (h.2.mono hb.size)⟩
  | inr S => exact h
theorem linkF_few {R : List ByteArray} (hF : ∀ x ∈ R, Few x) {r : ByteArray × ByteArray} (hr : linkF R = some r) : r.2.size ≤ maxLen := by
  match R, hr with
  | [a, b], hr =>
    have hb := hF b (by simp)
    simp only [linkF] at hr
    split at hr
    · cases hr; exact hb.max
    · cases hr
  | [], hr => cases hr
  | [a], hr => cases hr
  | a :: b :: d :: l, hr => cases hr
theorem zoneF_few {R : List ByteArray} (hF : ∀ x ∈ R, Few x) {r : ByteArray × EraT} (hr : zoneF R = some r) : r.1.size ≤ maxLen := by
  match R, hr with
  | [], hr => cases hr
  | a :: l, hr =>
    have hb := hF a (by simp)
    simp only [zoneF] at hr
    split at hr
    · cases hr
    · split at hr
      · cases hr; exact hb.max
      · cases hr
/-- what holds of a parser's state behind N lines. -/
structure OkS (S : PSt) (N : Nat) : Prop where
  rules : S.rules.length ≤ N
  zones : S.zones.length ≤ N
  links : S.links.length ≤ N
  eras : S.eras.length ≤ N
  cnt : ∀ k, 0 ≤ S.cnt k ∧ S.cnt k ≤ 16
  zn : ∀ z ∈ S.zones, z.1.size ≤ maxLen
  ze : ∀ z ∈ S.zones, z.2.length ≤ N
  ln : ∀ l ∈ S.links, l.2.size ≤ maxLen
  op : S.op = true → ∃ l z, S.zones = l ++ [z]

section
variable (w : World) (g m B : Nat) (S : PSt) (vr vl ve vz : Value) (vs : List Value) (V : World) (h : PM w g m B S vr vl ve vz vs V) (N : Nat) (hO : OkS S N) (hN : N ≤ 1000)
  (n : Int) (fb fo c : Nat) (f : ByteArray) (R : List ByteArray) (hF : ∀ x ∈ R, Few x) (hg : fb < V.heap.size) (hc : R.length + 1 ≤ c) (H : FdAt V fb fo (f :: R))
include h hO hN hF hg hc H

theorem takeRule_all : Calls Tryz.prog 49 #[.pointer (some ⟨g, 0, none⟩), .agg #[.int .i64 n, .slice (some ⟨fb, fo, none⟩) (R.length + 1) c]] V fun e W' => TkO w g m B V e W' (tkRule S R) := by
  obtain ⟨r, b, hr, HR⟩ := readRule_any R hF
  have RR : ∀ W : World, Below V.heap.size V W → _ := fun W hb => HR _ (c - 1) W (by omega) ((H.cut hg 1 c hc rfl).below hb)
  unfold tkRule
  rw [hr]
  cases b with
  | false => exact (takeRule_no n fb fo R.length c r _ rfl hc g V RR).mono fun e W' q => q
  | true =>
    simp only [if_pos]
    by_cases hz : S.cnt r.nm = 16 ∨ (S.cnt r.nm = 0 ∧ S.dn = 16)
    · rw [if_pos hz]; exact (takeRule_size n fb fo R.length c r _ rfl hc w g m B S vr vl ve vz vs V h hz RR).mono fun e W' q => q
    · rw [if_neg hz]
      have := hO.rules
      refine (takeRule_yes n fb fo R.length c r _ rfl hc w g m B S vr vl ve vz vs V h hz (hO.cnt _).1 (hO.cnt _).2 (by omega) RR).mono ?_
      rintro e W' ⟨q1, v', q2⟩
      exact ⟨q1, v', vl, ve, vz, vs, q2⟩

theorem takeLink_all : Calls Tryz.prog 51 #[.pointer (some ⟨g, 0, none⟩), .agg #[.int .i64 n, .slice (some ⟨fb, fo, none⟩) (R.length + 1) c]] V fun e W' => TkO w g m B V e W' (tkLink S R) := by
  obtain ⟨r, b, hr, HR⟩ := readLink_any R hF
  have RR : ∀ W : World, Below V.heap.size V W → _ := fun W hb => HR _ (c - 1) W (by omega) ((H.cut hg 1 c hc rfl).below hb)
  unfold tkLink
  rw [hr]
  cases b with
  | false => exact (takeLink_no n fb fo R.length c r _ rfl hc g V RR).mono fun e W' q => q
  | true =>
    have hs : r.2.size ≤ maxLen := linkF_few hF hr
    simp only [if_pos]
    by_cases hz : S.links.length = 16
    · rw [if_pos hz]; exact (takeLink_size n fb fo R.length c r _ rfl hc w g m B S vr vl ve vz vs V h hz RR).mono fun e W' q => q
    · rw [if_neg hz]
      have := hO.links
      by_cases ht : takenB S r.2 = true
      · rw [if_pos ht]; exact (takeLink_name n fb fo R.length c r _ rfl hc w g m B S vr vl ve vz vs V h hz hs hO.zn hO.ln ht RR).mono fun e W' q => q
      · rw [if_neg ht]
        refine (takeLink_yes n fb fo R.length c r _ rfl hc w g m B S vr vl ve vz vs V h hz (by omega) hs hO.zn hO.ln (by simpa using ht) RR).mono ?_
        rintro e W' ⟨q1, v', q2⟩
        exact ⟨q1, vr, v', ve, vz, vs, q2⟩

theorem takeZone_all : Calls Tryz.prog 50 #[.pointer (some ⟨g, 0, none⟩), .agg #[.int .i64 n, .slice (some ⟨fb, fo, none⟩) (R.length + 1) c]] V fun e W' => TkO w g m B V e W' (tkZone S n R) := by
  obtain ⟨nm, r, b, hr, HR⟩ := readZone_any R hF
  have RR : ∀ W : World, Below V.heap.size V W → _ := fun W hb => HR _ (c - 1) W (by omega) ((H.cut hg 1 c hc rfl).below hb)
  unfold tkZone
  rw [hr]
  cases b with
  | false => exact (takeZone_no n fb fo R.length c nm r _ rfl hc g V RR).mono fun e W' q => q
  | true =>
    have hs : nm.size ≤ maxLen := zoneF_few hF hr
    simp only [if_pos]
    by_cases hz : S.zones.length = 16
    · rw [if_pos hz]; exact (takeZone_size n fb fo R.length c nm r _ rfl hc w g m B S vr vl ve vz vs V h hz RR).mono fun e W' q => q
    · rw [if_neg hz]
      have := hO.zones
      have := hO.eras
      by_cases ht : takenB S nm = true
      · rw [if_pos ht]; exact (takeZone_name n fb fo R.length c nm r _ rfl hc w g m B S vr vl ve vz vs V h hz hs hO.zn hO.ln ht RR).mono fun e W' q => q
      · rw [if_neg ht]
        refine (takeZone_yes n fb fo R.length c nm r _ rfl hc w g m B S vr vl ve vz vs V h hz (by omega) (by omega) hs hO.zn hO.ln (by simpa using ht) RR).mono ?_
        rintro e W' ⟨q1, ve', vz', vs', q2⟩
        exact ⟨q1, vr, vl, ve', vz', vs', q2⟩

theorem goOn_all (hf : Few f) (hop : S.op = true) : Calls Tryz.prog 47 #[.pointer (some ⟨g, 0, none⟩), .agg #[.int .i64 n, .slice (some ⟨fb, fo, none⟩) (R.length + 1) c]] V fun e W' => TkO w g m B V e W' (tkOn S n (f :: R)) := by
  obtain ⟨r, b, hr, hz0, HR⟩ := readEra_any (f :: R) (by simp only [List.forall_mem_cons]; exact ⟨hf, hF⟩)
  have RR : ∀ W : World, Below V.heap.size V W → _ := fun W hb => HR (some ⟨fb, fo, none⟩) c W hc (fun _ => ⟨fb, fo, rfl, Nat.lt_of_lt_of_le hg hb.size, H.below hg hb⟩)
  obtain ⟨l, z, hS⟩ := hO.op hop
  unfold tkOn
  rw [hr]
  cases b with
  | false => exact (goOn_no n (some ⟨fb, fo, none⟩) (R.length + 1) c r g V RR).mono fun e W' q => q
  | true =>
    simp only [if_pos]
    have hl : (S.zones.getLast?.map (·.2.length)).getD 0 = z.2.length := by rw [hS]; simp
    rw [hl]
    have e1 := hO.zones
    have e2 := hO.eras
    have e3 := hO.ze z (by rw [hS]; simp)
    rw [hS, List.length_append, List.length_singleton] at e1
    by_cases hz : z.2.length = 12
    · rw [if_pos hz]; exact (goOn_size n (some ⟨fb, fo, none⟩) (R.length + 1) c r w g m B S vr vl ve vz vs V h l z hS (by omega) hz RR).mono fun e W' q => q
    · rw [if_neg hz]
      refine (goOn_yes n (some ⟨fb, fo, none⟩) (R.length + 1) c r w g m B S vr vl ve vz vs V h l z hS (by omega) hz (by omega) (by omega) RR).mono ?_
      rintro e W' ⟨q1, ve', vz', vs', q2⟩
      exact ⟨q1, vr, vl, ve', vz', vs', q2⟩
end

end Go.Proofs.YtgnfkkcagbbhmaaGreatDoor
