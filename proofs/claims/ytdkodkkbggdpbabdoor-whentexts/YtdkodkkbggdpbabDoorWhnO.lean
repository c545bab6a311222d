/- when.TextAt and the reference's whole; texts of days and times are read as they were. -/
import Derived.Test.YtdkodkkbggdpbabDoorWhnN
import Derived.Test.YtdkodkkbggdpbabDoorWhnI
namespace Go.Proofs.YtdkodkkbggdpbabDoor
open Go.RowKit
set_option linter.unusedVariables false

theorem kind_byte {k : Int} (h : k = 115 ∨ k = 117) : True := trivial

theorem tat_yes (s k : Int) (h : okAt s k) (w : World) (hT : Clk.Tab w) :
    Calls Tryd.prog 26 #[.agg #[.int .i64 s, .int .u8 k]] w fun e w' => e = .returned (.tuple #[.string (atT s k), .int .i64 0]) ∧ Below w.heap.size w w' := by
  obtain ⟨s0, s1, hk⟩ := h
  have PA : Hid (∀ w : World, Calls Tryd.prog 50 #[.int .i64 (s * 1000000)] w fun e w' => e = .returned (.tuple #[.int .i64 (s / 3600), .int .i64 (s / 60 % 60), .int .i64 (s % 60), .int .i64 0, .int .i64 0]) ∧ w' = w) := fun w => by
    have t0 : 0 ≤ s * 1000000 := by omega
    refine Clk.parts_in (s * 1000000) (s / 3600) (s / 60 % 60) (s % 60) 0 (s / 60) s t0 (by omega) ?_ ?_ ?_ ?_ ?_ ?_ (by omega) (by omega) (by omega) (by omega) s0 (by omega) w
    · rw [Int.tdiv_eq_ediv_of_nonneg t0]; omega
    · rw [Int.tdiv_eq_ediv_of_nonneg t0]; omega
    · rw [Int.tmod_eq_emod_of_nonneg (by omega)]
    · rw [Int.tdiv_eq_ediv_of_nonneg t0]; omega
    · rw [Int.tmod_eq_emod_of_nonneg s0]
    · rw [Int.tmod_eq_emod_of_nonneg t0]; omega
  have FI := format_small (s / 3600) (by omega) (by omega)
  have T1 := Clk.two_any (s / 60 % 60) (by omega) (by omega)
  have T2 := Clk.two_any (s % 60) (by omega) (by omega)
  have z1 := digB_size (s / 3600) (by omega) (by omega)
  have z2 := Clk.twoB_size (n := s / 60 % 60) (by omega) (by omega)
  have z3 := Clk.twoB_size (n := s % 60) (by omega) (by omega)
  unfold atT hmsT
  by_cases hz : s % 60 = 0
  · simp only [if_pos hz]
    rcases hk with rfl | rfl | rfl
    · exact tat_wz s _ _ _ _ _ _ _ z1 z2 z3 s0 s1 hz PA FI T1 w hT
    · exact tat_sz s _ _ _ _ _ _ _ z1 z2 z3 s0 s1 hz PA FI T1 w hT
    · exact tat_uz s _ _ _ _ _ _ _ z1 z2 z3 s0 s1 hz PA FI T1 w hT
  · simp only [if_neg hz]
    rcases hk with rfl | rfl | rfl
    · exact tat_wn s _ _ _ _ _ _ _ z1 z2 z3 s0 s1 hz PA FI T1 T2 w hT
    · exact tat_sn s _ _ _ _ _ _ _ z1 z2 z3 s0 s1 hz PA FI T1 T2 w hT
    · exact tat_un s _ _ _ _ _ _ _ z1 z2 z3 s0 s1 hz PA FI T1 T2 w hT

theorem tat_no (s k : Int) (h : ¬ okAt s k) (w : World) (hT : Clk.Tab w) :
    Calls Tryd.prog 26 #[.agg #[.int .i64 s, .int .u8 k]] w fun e w' => e = .returned (.tuple #[.string ⟨#[]⟩, .int .i64 1]) ∧ Below w.heap.size w w' := by
  by_cases a : s < 0
  · exact tat_lo s k a w
  · by_cases b : 86400 < s
    · exact tat_hi s k b w
    · have s0 : 0 ≤ s := by omega
      have s1 : s ≤ 86400 := by omega
      have hk : k ≠ 119 ∧ k ≠ 115 ∧ k ≠ 117 := by unfold okAt at h; omega
      have PA : Hid (∀ w : World, Calls Tryd.prog 50 #[.int .i64 (s * 1000000)] w fun e w' => e = .returned (.tuple #[.int .i64 (s / 3600), .int .i64 (s / 60 % 60), .int .i64 (s % 60), .int .i64 0, .int .i64 0]) ∧ w' = w) := fun w => by
        have t0 : 0 ≤ s * 1000000 := by omega
        refine Clk.parts_in (s * 1000000) (s / 3600) (s / 60 % 60) (s % 60) 0 (s / 60) s t0 (by omega) ?_ ?_ ?_ ?_ ?_ ?_ (by omega) (by omega) (by omega) (by omega) s0 (by omega) w
        · rw [Int.tdiv_eq_ediv_of_nonneg t0]; omega
        · rw [Int.tdiv_eq_ediv_of_nonneg t0]; omega
        · rw [Int.tmod_eq_emod_of_nonneg (by omega)]
        · rw [Int.tdiv_eq_ediv_of_nonneg t0]; omega
        · rw [Int.tmod_eq_emod_of_nonneg s0]
        · rw [Int.tmod_eq_emod_of_nonneg t0]; omega
      have FI := format_small (s / 3600) (by omega) (by omega)
      have T1 := Clk.two_any (s / 60 % 60) (by omega) (by omega)
      have T2 := Clk.two_any (s % 60) (by omega) (by omega)
      have z1 := digB_size (s / 3600) (by omega) (by omega)
      have z2 := Clk.twoB_size (n := s / 60 % 60) (by omega) (by omega)
      have z3 := Clk.twoB_size (n := s % 60) (by omega) (by omega)
      by_cases hz : s % 60 = 0
      · exact tat_xz s k _ _ _ _ _ _ _ z1 z2 z3 s0 s1 hz hk.1 hk.2.1 hk.2.2 PA FI T1 w hT
      · exact tat_xn s k _ _ _ _ _ _ _ z1 z2 z3 s0 s1 hz hk.1 hk.2.1 hk.2.2 PA FI T1 T2 w hT

theorem rtat_yes (s k : Int) (h : okAt s k) (w : World) :
    Calls Tryd.prog 27 #[.agg #[.int .i64 s, .int .u8 k]] w fun e w' => e = .returned (.tuple #[.string (atT s k), .int .i64 0]) ∧ Below w.heap.size w w' := by
  have RA := rightAt_yes s k h
  obtain ⟨s0, s1, hk⟩ := h
  have DG := Clk.digits_any (s / 3600) (by omega) (by omega)
  have T1 := Clk.etwo_any (s / 60 % 60) (by omega) (by omega)
  have T2 := Clk.etwo_any (s % 60) (by omega) (by omega)
  have z1 := digB_size (s / 3600) (by omega) (by omega)
  have z2 := Clk.twoB_size (n := s / 60 % 60) (by omega) (by omega)
  have z3 := Clk.twoB_size (n := s % 60) (by omega) (by omega)
  have e1 : s.tdiv 3600 = s / 3600 := Int.tdiv_eq_ediv_of_nonneg s0
  have e2 : s.tdiv 60 = s / 60 := Int.tdiv_eq_ediv_of_nonneg s0
  have e3 : (s / 60).tmod 60 = s / 60 % 60 := Int.tmod_eq_emod_of_nonneg (by omega)
  have e4 : s.tmod 60 = s % 60 := Int.tmod_eq_emod_of_nonneg s0
  unfold atT hmsT
  by_cases hz : s % 60 = 0
  · simp only [if_pos hz]
    rcases hk with rfl | rfl | rfl
    · exact rtat_wz s _ _ _ _ _ _ _ z1 z2 z3 s0 s1 e1 e2 e3 e4 (by omega) (by omega) (by omega) (by omega) (by omega) (by omega) (by omega) (by omega) hz RA DG T1 w
    · exact rtat_sz s _ _ _ _ _ _ _ z1 z2 z3 s0 s1 e1 e2 e3 e4 (by omega) (by omega) (by omega) (by omega) (by omega) (by omega) (by omega) (by omega) hz RA DG T1 w
    · exact rtat_uz s _ _ _ _ _ _ _ z1 z2 z3 s0 s1 e1 e2 e3 e4 (by omega) (by omega) (by omega) (by omega) (by omega) (by omega) (by omega) (by omega) hz RA DG T1 w
  · simp only [if_neg hz]
    rw [← ByteArray.append_assoc (a := (digB (s / 3600) ++ ⟨#[58]⟩) ++ Clk.twoB (s / 60 % 60))]
    rcases hk with rfl | rfl | rfl
    · exact rtat_wn s _ _ _ _ _ _ _ z1 z2 z3 s0 s1 e1 e2 e3 e4 (by omega) (by omega) (by omega) (by omega) (by omega) (by omega) (by omega) (by omega) hz RA DG T1 T2 w
    · exact rtat_sn s _ _ _ _ _ _ _ z1 z2 z3 s0 s1 e1 e2 e3 e4 (by omega) (by omega) (by omega) (by omega) (by omega) (by omega) (by omega) (by omega) hz RA DG T1 T2 w
    · exact rtat_un s _ _ _ _ _ _ _ z1 z2 z3 s0 s1 e1 e2 e3 e4 (by omega) (by omega) (by omega) (by omega) (by omega) (by omega) (by omega) (by omega) hz RA DG T1 T2 w

/-- digits of a number below 100. -/
def dgL (i : Nat) : List UInt8 := if i < 10 then [UInt8.ofNat (48 + i)] else [UInt8.ofNat (48 + i / 10), UInt8.ofNat (48 + i % 10)]
theorem digB_L (i : Nat) (h : i < 100) : (digB (i : Int)).data.toList = dgL i := by
  unfold digB dgL
  rw [itoa_nat]
  by_cases c : i < 10
  · rw [if_pos c, Lib.decDigits_one c]
  · rw [if_neg c, Lib.decDigits_two c h]
/-- a day's text as bytes. -/
def onL (k : Nat) (d n : Nat) : List UInt8 := if k = 0 then dgL n else if k = 1 then [108, 97, 115, 116] ++ (dayB (d : Int)).data.toList else if k = 2 then ((dayB (d : Int)).data.toList ++ [62, 61]) ++ dgL n else ((dayB (d : Int)).data.toList ++ [60, 61]) ++ dgL n
theorem onT_L (k d n : Nat) (hn : n < 100) (hk : k ≤ 3) : (onT (k : Int) (d : Int) (n : Int)).data.toList = onL k d n := by
  have e := digB_L n hn
  match k, hk with
  | 0, _ => exact e
  | 1, _ =>
    show ((⟨#[108, 97, 115, 116]⟩ : ByteArray) ++ dayB (d : Int)).data.toList = [108, 97, 115, 116] ++ (dayB (d : Int)).data.toList
    rw [ByteArray.data_append, Array.toList_append]
  | 2, _ =>
    show ((dayB (d : Int) ++ ⟨#[62, 61]⟩) ++ digB (n : Int)).data.toList = ((dayB (d : Int)).data.toList ++ [62, 61]) ++ dgL n
    rw [ByteArray.data_append, Array.toList_append, ByteArray.data_append, Array.toList_append, e]
  | 3, _ =>
    show ((dayB (d : Int) ++ ⟨#[60, 61]⟩) ++ digB (n : Int)).data.toList = ((dayB (d : Int)).data.toList ++ [60, 61]) ++ dgL n
    rw [ByteArray.data_append, Array.toList_append, ByteArray.data_append, Array.toList_append, e]

theorem back_num : ∀ n : Fin 32, 1 ≤ n.val → rfO (onL 0 0 n.val) = some (0, 0, (n.val : Int)) := by decide +kernel
theorem back_fin : ∀ d : Fin 7, rfO (onL 1 d.val 0) = some (1, (d.val : Int), 0) := by decide +kernel
theorem back_bes2 : ∀ d : Fin 7, ∀ n : Fin 32, 1 ≤ n.val → rfO (onL 2 d.val n.val) = some (2, (d.val : Int), (n.val : Int)) := by decide +kernel
theorem back_bes3 : ∀ d : Fin 7, ∀ n : Fin 32, 1 ≤ n.val → rfO (onL 3 d.val n.val) = some (3, (d.val : Int), (n.val : Int)) := by decide +kernel

theorem back_on (k d n : Int) (h : okOn k d n) : rfO (onT k d n).data.toList = some (k, d, n) := by
  rcases h with ⟨rfl, h1, h2, rfl⟩ | ⟨rfl, h1, h2, rfl⟩ | ⟨rfl | rfl, h1, h2, h3, h4⟩
  · obtain ⟨i, rfl⟩ : ∃ i : Nat, n = (i : Int) := ⟨n.toNat, by omega⟩
    exact (congrArg rfO (onT_L 0 0 i (by omega) (by decide))).trans (back_num ⟨i, by omega⟩ (by show 1 ≤ i; omega))
  · obtain ⟨j, rfl⟩ : ∃ j : Nat, d = (j : Int) := ⟨d.toNat, by omega⟩
    exact (congrArg rfO (onT_L 1 j 0 (by omega) (by decide))).trans (back_fin ⟨j, by omega⟩)
  · obtain ⟨i, rfl⟩ : ∃ i : Nat, n = (i : Int) := ⟨n.toNat, by omega⟩
    obtain ⟨j, rfl⟩ : ∃ j : Nat, d = (j : Int) := ⟨d.toNat, by omega⟩
    exact (congrArg rfO (onT_L 2 j i (by omega) (by decide))).trans (back_bes2 ⟨j, by omega⟩ ⟨i, by omega⟩ (by show 1 ≤ i; omega))
  · obtain ⟨i, rfl⟩ : ∃ i : Nat, n = (i : Int) := ⟨n.toNat, by omega⟩
    obtain ⟨j, rfl⟩ : ∃ j : Nat, d = (j : Int) := ⟨d.toNat, by omega⟩
    exact (congrArg rfO (onT_L 3 j i (by omega) (by decide))).trans (back_bes3 ⟨j, by omega⟩ ⟨i, by omega⟩ (by show 1 ≤ i; omega))

theorem onT_len (k d n : Int) (h : okOn k d n) : (onT k d n).data.toList.length ≤ maxLen := by
  have hd := dayB_size d
  have e : ∀ A : ByteArray, A.data.toList.length = A.size := fun A => Array.length_toList
  rw [e]
  unfold onT maxLen
  have hn : 0 ≤ n ∧ n < 100 := by unfold okOn at h; omega
  have hz := digB_size n hn.1 hn.2
  have l4 : (⟨#[108, 97, 115, 116]⟩ : ByteArray).size = 4 := rfl
  have l2 : (⟨#[62, 61]⟩ : ByteArray).size = 2 := rfl
  have l3 : (⟨#[60, 61]⟩ : ByteArray).size = 2 := rfl
  split
  · omega
  · split
    · rw [ByteArray.size_append]; omega
    · split <;> (rw [ByteArray.size_append, ByteArray.size_append]; omega)

theorem on_back (k d n : Int) (h : okOn k d n) (w : World) :
    Calls Tryd.prog 13 #[.string (onT k d n)] w fun e w' => e = .returned (.tuple #[onV k d n, .int .i64 0]) ∧ Below w.heap.size w w' := by
  have R := readOn_any (onT k d n).data.toList (onT_len k d n h) w
  unfold rdV rdE at R
  rw [back_on k d n h] at R
  simp only [roV, roE, if_pos h] at R
  exact R

end Go.Proofs.YtdkodkkbggdpbabDoor
