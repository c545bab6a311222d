/- expr.write, String of any node. -/
import Derived.Test.YtaoocecipacnhaaDoorExWkq
namespace Go.Proofs.YtaoocecipacnhaaDoor
open Go.RowKit
set_option linter.unusedVariables false
set_option linter.unusedSimpArgs false

set_option maxRecDepth 100000 in
set_option maxHeartbeats 8000000 in
theorem write_any (n : Nd) : WrOk n := by
  have hn := PlN.all n
  induction hn with
  | mk k t ks a ha hk ih =>
    intro htz B b w pre m c0 c1 c2 c3 h hw h2 hm hlen
    rw [NdAt] at h
    obtain ⟨sv, hcs, hv⟩ := h
    simp only [List.cons.injEq, and_true] at hcs
    obtain ⟨rfl, rfl, rfl, rfl⟩ := hcs
    rw [tzN, Bool.and_eq_true, decide_eq_true_eq] at htz
    obtain ⟨ht, hks⟩ := htz
    have hB2 : 2 < w.heap.size := by have := hw.2.2; omega
    obtain ⟨sq, sc, rfl, hkl, HG⟩ : ∃ sq sc, c2 = .slice sq ks.length sc ∧ ks.length ≤ 9223372036854775807 ∧ Hid (KdAt B w ks sq sc) := by
      rcases hv with ⟨q1, q2⟩ | ⟨b, cap, e1, e0, e2, e3, e4, e5, e6⟩
      · first | (subst q1; exact ⟨none, 0, q2, by simp, fun j n e => by simp at e⟩) | (subst q2; exact ⟨none, 0, q1, by simp, fun j n e => by simp at e⟩)
      · refine ⟨some ⟨b, 0, none⟩, cap, e1, by unfold maxLen at e3; omega, fun j n e => ⟨b, rfl, e2, e4, e5, ?_⟩⟩
        have q := RwAt.get ks 0 j n e6 e
        rw [Nat.zero_add] at q
        exact q
    have HK : Hid (∀ (V : World) (H M T : ByteArray), WB B b w pre V → pre.length + H.size + (jnW M.data.toList true (wrT ks)).length + T.size ≤ 1000000000 →
        Calls Tryd.prog 42 #[.pointer (some ⟨b, 0, none⟩), .string H, .slice sq ks.length sc, .string M, .string T] V fun e w' => e = .returned (.tuple #[]) ∧ WB B b w (pre ++ (H.data.toList ++ jnW M.data.toList true (wrT ks) ++ T.data.toList)) w') := fun V H M T hV hl => by
      refine (wk_any ks ih hks B b V pre m H M T sq sc hkl (fun j n e => ?_) (WB.start hV.1 hV.le) h2 ((hV.2.1.cell (p := ⟨2, 0, none⟩) h2).trans hm) hl).mono ?_
      · obtain ⟨r, e1, e2, e3, e4, d0, d1, d2, d3, y0, y1, y2, y3, hnd⟩ := HG.out j n e
        exact ⟨r, e1, e2, e3, Nat.lt_of_lt_of_le e4 hV.2.1.size, d0, d1, d2, d3, (hV.2.1.cell (p := ⟨r, j * 4, none⟩) e3).trans y0, (hV.2.1.cell (p := ⟨r, j * 4 + 1, none⟩) e3).trans y1, (hV.2.1.cell (p := ⟨r, j * 4 + 2, none⟩) e3).trans y2, (hV.2.1.cell (p := ⟨r, j * 4 + 3, none⟩) e3).trans y3, NdAt.keep hV.2.1.size (fun c hc _ => ⟨hc, hV.2.1.block c hc⟩) _ _ hnd⟩
      · rintro e w' ⟨he, h3⟩
        exact ⟨he, hV.trans h3⟩
    have H0 : Hid (WB B b w pre w) := hw
    have HM : Hid (w.cell? ⟨2, 0, none⟩ = some (.int .i64 m)) := hm
    have HL : Hid (pre.length + (wrN (.mk k t ks a)).length ≤ 1000000000) := hlen
    have htI : (t.size : Int) ≤ 100000 := by omega
    have hts : t.data.toList.length = t.size := by simp
    clear hk ih ha hv HG hks hw hm hlen
    rcases Classical.em (k = 1) with rfl | h1
    · have HE : Hid (wrN (.mk 1 t ks a) = t.data.toList) := by show _ = _; simp [wrN, frW]
      have hl : pre.length + t.size ≤ 1000000000 := by have := HL.out; rw [HE.out] at this; omega
      clear HK HL
      go_enter Tryd.func20, Tryd.ntmps20
      go_wp2_with fail
      refine (wstr (H0.out.alloc (.cells [.int .i64 1, .string t, .slice sq ks.length sc, .int .i64 a].toArray 24)) t hl).mono ?_
      rintro e V ⟨rfl, hv, -, -⟩
      have HF : Hid (WB B b w (pre ++ wrN (.mk 1 t ks a)) V) := by show WB _ _ _ _ _; rw [HE.out]; exact hv
      clear hv
      go_wp2
      exact bodyPost_end (v := .tuple #[]) (by simp [results, Tryd.results20, go_sem]) rfl ⟨rfl, HF.out⟩
    have g1 : (k == 1) = false := by simpa using h1
    rcases Classical.em (k = 2) with rfl | h2'
    · have HE : Hid (wrN (.mk 2 t ks a) = t.data.toList) := by show _ = _; simp [wrN, frW]
      have hl : pre.length + t.size ≤ 1000000000 := by have := HL.out; rw [HE.out] at this; omega
      clear HK HL
      go_enter Tryd.func20, Tryd.ntmps20
      go_wp2_with fail
      refine (wstr (H0.out.alloc (.cells [.int .i64 2, .string t, .slice sq ks.length sc, .int .i64 a].toArray 24)) t hl).mono ?_
      rintro e V ⟨rfl, hv, -, -⟩
      have HF : Hid (WB B b w (pre ++ wrN (.mk 2 t ks a)) V) := by show WB _ _ _ _ _; rw [HE.out]; exact hv
      clear hv
      go_wp2
      exact bodyPost_end (v := .tuple #[]) (by simp [results, Tryd.results20, go_sem]) rfl ⟨rfl, HF.out⟩
    have g2 : (k == 2) = false := by simpa using h2'
    rcases Classical.em (k = 4) with rfl | h4
    · have HE : Hid (wrN (.mk 4 t ks a) = t.data.toList) := by show _ = _; simp [wrN, frW]
      have hl : pre.length + t.size ≤ 1000000000 := by have := HL.out; rw [HE.out] at this; omega
      clear HK HL
      go_enter Tryd.func20, Tryd.ntmps20
      go_wp2_with fail
      refine (wstr (H0.out.alloc (.cells [.int .i64 4, .string t, .slice sq ks.length sc, .int .i64 a].toArray 24)) t hl).mono ?_
      rintro e V ⟨rfl, hv, -, -⟩
      have HF : Hid (WB B b w (pre ++ wrN (.mk 4 t ks a)) V) := by show WB _ _ _ _ _; rw [HE.out]; exact hv
      clear hv
      go_wp2
      exact bodyPost_end (v := .tuple #[]) (by simp [results, Tryd.results20, go_sem]) rfl ⟨rfl, HF.out⟩
    have g4 : (k == 4) = false := by simpa using h4
    rcases Classical.em (k = 3) with rfl | h3
    · have HE : Hid (wrN (.mk 3 t ks a) = [39] ++ rpQ t ++ [39]) := by show _ = _; simp [wrN, frW]
      have hl : pre.length + (rpQ t).length + 2 ≤ 1000000000 := by have := HL.out; rw [HE.out] at this; simp only [List.length_append, List.length_cons, List.length_nil] at this; omega
      have RC : Hid (∀ V : World, V.cell? ⟨2, 0, none⟩ = some (.int .i64 m) → Calls Tryd.prog 41 #[.string t, .string ⟨#[39]⟩, .string ⟨#[39, 39]⟩] V fun e w' => e = .returned (.string ⟨(rpQ t).toArray⟩) ∧ Below V.heap.size V w') := fun V hV => by
        have hl := Lib.countB_le ⟨#[39]⟩ (by decide) _ t (Nat.le_refl _)
        exact Tryd.strings_ReplaceAll t ⟨#[39]⟩ ⟨#[39, 39]⟩ m V (by omega) hV (by decide) (by rw [show (⟨#[39, 39]⟩ : ByteArray).size = 2 from rfl]; omega)
      have hrs : (rpQ t).length = (⟨(rpQ t).toArray⟩ : ByteArray).size := by simp [ByteArray.size]
      have hrd : rpQ t = (⟨(rpQ t).toArray⟩ : ByteArray).data.toList := by simp
      rw [hrd] at HE
      rw [hrs] at hl
      generalize (⟨(rpQ t).toArray⟩ : ByteArray) = R at *
      clear hrs hrd
      have z1 : (⟨#[39]⟩ : ByteArray).size + R.size ≤ 9223372036854775807 := by show 1 + _ ≤ _; omega
      have z2 : (⟨#[39]⟩ ++ R : ByteArray).size + (⟨#[39]⟩ : ByteArray).size ≤ 9223372036854775807 := by rw [ByteArray.size_append]; show 1 + _ + 1 ≤ _; omega
      clear HK HL
      go_enter Tryd.func20, Tryd.ntmps20
      go_wp2_with fail
      refine (RC.out _ ((Below.cell ((Below.refl _ w).alloc (Nat.le_refl _) _) (p := ⟨2, 0, none⟩) hB2).trans HM.out)).mono ?_
      rintro e V ⟨rfl, hk⟩
      have HV : Hid (WB B b w pre V) := (H0.out.alloc (.cells [.int .i64 3, .string t, .slice sq ks.length sc, .int .i64 a].toArray 24)).below hk
      clear hk RC
      go_wp2_with fail
      refine (wstr HV.out ((⟨#[39]⟩ : ByteArray) ++ R ++ (⟨#[39]⟩ : ByteArray)) (by rw [ByteArray.size_append, ByteArray.size_append]; show _ + (1 + _ + 1) ≤ _; omega)).mono ?_
      rintro e V2 ⟨rfl, hv, -, -⟩
      have HF : Hid (WB B b w (pre ++ wrN (.mk 3 t ks a)) V2) := by
        show WB _ _ _ _ _
        rw [HE.out]
        simpa [ByteArray.data_append] using hv
      clear hv HV
      go_wp2
      exact bodyPost_end (v := .tuple #[]) (by simp [results, Tryd.results20, go_sem]) rfl ⟨rfl, HF.out⟩
    have g3 : (k == 3) = false := by simpa using h3
    rcases Classical.em (k = 5) with rfl | h5
    · obtain ⟨H, hH⟩ : ∃ H : ByteArray, H = t ++ (⟨#[32]⟩ : ByteArray) := ⟨_, rfl⟩
      obtain ⟨M, hM⟩ : ∃ M : ByteArray, M = (⟨#[]⟩ : ByteArray) := ⟨_, rfl⟩
      obtain ⟨T, hT⟩ : ∃ T : ByteArray, T = (⟨#[]⟩ : ByteArray) := ⟨_, rfl⟩
      have HE : Hid (wrN (.mk 5 t ks a) = H.data.toList ++ jnW M.data.toList true (wrT ks) ++ T.data.toList) := by show _ = _; subst hH hM hT; simp [wrN, frW, ByteArray.data_append]
      have hl : pre.length + H.size + (jnW M.data.toList true (wrT ks)).length + T.size ≤ 1000000000 := by
        have := HL.out
        have q1 : H.data.toList.length = H.size := by simp
        have q2 : T.data.toList.length = T.size := by simp
        rw [HE.out, List.length_append, List.length_append] at this
        omega
      have z1 : (t : ByteArray).size + (⟨#[32]⟩ : ByteArray).size ≤ 9223372036854775807 := by show t.size + 1 ≤ _; omega
      have HC : Hid (∀ (V : World), WB B b w pre V → Calls Tryd.prog 42 #[.pointer (some ⟨b, 0, none⟩), .string (t ++ (⟨#[32]⟩ : ByteArray)), .slice sq ks.length sc, .string (⟨#[]⟩), .string (⟨#[]⟩)] V fun e w' => e = .returned (.tuple #[]) ∧ WB B b w (pre ++ wrN (.mk 5 t ks a)) w') := fun V hV => by
        rw [HE.out]
        subst hH hM hT
        exact HK.out V _ _ _ hV hl
      clear HK HL HE hl hH hM hT H M T
      go_enter Tryd.func20, Tryd.ntmps20
      go_wp2_with fail
      refine (HC.out _ (H0.out.alloc (.cells [.int .i64 5, .string t, .slice sq ks.length sc, .int .i64 a].toArray 24))).mono ?_
      rintro e V ⟨rfl, hv⟩
      have HF : Hid (WB B b w (pre ++ wrN (.mk 5 t ks a)) V) := hv
      clear hv HC
      go_wp2
      exact bodyPost_end (v := .tuple #[]) (by simp [results, Tryd.results20, go_sem]) rfl ⟨rfl, HF.out⟩
    have g5 : (k == 5) = false := by simpa using h5
    rcases Classical.em (k = 6) with rfl | h6
    · obtain ⟨H, hH⟩ : ∃ H : ByteArray, H = (⟨#[40, 45, 32]⟩ : ByteArray) := ⟨_, rfl⟩
      obtain ⟨M, hM⟩ : ∃ M : ByteArray, M = (⟨#[]⟩ : ByteArray) := ⟨_, rfl⟩
      obtain ⟨T, hT⟩ : ∃ T : ByteArray, T = (⟨#[41]⟩ : ByteArray) := ⟨_, rfl⟩
      have HE : Hid (wrN (.mk 6 t ks a) = H.data.toList ++ jnW M.data.toList true (wrT ks) ++ T.data.toList) := by show _ = _; subst hH hM hT; simp [wrN, frW, ByteArray.data_append]
      have hl : pre.length + H.size + (jnW M.data.toList true (wrT ks)).length + T.size ≤ 1000000000 := by
        have := HL.out
        have q1 : H.data.toList.length = H.size := by simp
        have q2 : T.data.toList.length = T.size := by simp
        rw [HE.out, List.length_append, List.length_append] at this
        omega
      have HC : Hid (∀ (V : World), WB B b w pre V → Calls Tryd.prog 42 #[.pointer (some ⟨b, 0, none⟩), .string (⟨#[40, 45, 32]⟩), .slice sq ks.length sc, .string (⟨#[]⟩), .string (⟨#[41]⟩)] V fun e w' => e = .returned (.tuple #[]) ∧ WB B b w (pre ++ wrN (.mk 6 t ks a)) w') := fun V hV => by
        rw [HE.out]
        subst hH hM hT
        exact HK.out V _ _ _ hV hl
      clear HK HL HE hl hH hM hT H M T
      go_enter Tryd.func20, Tryd.ntmps20
      go_wp2_with fail
      refine (HC.out _ (H0.out.alloc (.cells [.int .i64 6, .string t, .slice sq ks.length sc, .int .i64 a].toArray 24))).mono ?_
      rintro e V ⟨rfl, hv⟩
      have HF : Hid (WB B b w (pre ++ wrN (.mk 6 t ks a)) V) := hv
      clear hv HC
      go_wp2
      exact bodyPost_end (v := .tuple #[]) (by simp [results, Tryd.results20, go_sem]) rfl ⟨rfl, HF.out⟩
    have g6 : (k == 6) = false := by simpa using h6
    rcases Classical.em (k = 7) with rfl | h7
    · obtain ⟨H, hH⟩ : ∃ H : ByteArray, H = (⟨#[40, 110, 111, 116, 32]⟩ : ByteArray) := ⟨_, rfl⟩
      obtain ⟨M, hM⟩ : ∃ M : ByteArray, M = (⟨#[]⟩ : ByteArray) := ⟨_, rfl⟩
      obtain ⟨T, hT⟩ : ∃ T : ByteArray, T = (⟨#[41]⟩ : ByteArray) := ⟨_, rfl⟩
      have HE : Hid (wrN (.mk 7 t ks a) = H.data.toList ++ jnW M.data.toList true (wrT ks) ++ T.data.toList) := by show _ = _; subst hH hM hT; simp [wrN, frW, ByteArray.data_append]
      have hl : pre.length + H.size + (jnW M.data.toList true (wrT ks)).length + T.size ≤ 1000000000 := by
        have := HL.out
        have q1 : H.data.toList.length = H.size := by simp
        have q2 : T.data.toList.length = T.size := by simp
        rw [HE.out, List.length_append, List.length_append] at this
        omega
      have HC : Hid (∀ (V : World), WB B b w pre V → Calls Tryd.prog 42 #[.pointer (some ⟨b, 0, none⟩), .string (⟨#[40, 110, 111, 116, 32]⟩), .slice sq ks.length sc, .string (⟨#[]⟩), .string (⟨#[41]⟩)] V fun e w' => e = .returned (.tuple #[]) ∧ WB B b w (pre ++ wrN (.mk 7 t ks a)) w') := fun V hV => by
        rw [HE.out]
        subst hH hM hT
        exact HK.out V _ _ _ hV hl
      clear HK HL HE hl hH hM hT H M T
      go_enter Tryd.func20, Tryd.ntmps20
      go_wp2_with fail
      refine (HC.out _ (H0.out.alloc (.cells [.int .i64 7, .string t, .slice sq ks.length sc, .int .i64 a].toArray 24))).mono ?_
      rintro e V ⟨rfl, hv⟩
      have HF : Hid (WB B b w (pre ++ wrN (.mk 7 t ks a)) V) := hv
      clear hv HC
      go_wp2
      exact bodyPost_end (v := .tuple #[]) (by simp [results, Tryd.results20, go_sem]) rfl ⟨rfl, HF.out⟩
    have g7 : (k == 7) = false := by simpa using h7
    rcases Classical.em (k = 8) with rfl | h8
    · obtain ⟨H, hH⟩ : ∃ H : ByteArray, H = (⟨#[40]⟩ : ByteArray) := ⟨_, rfl⟩
      obtain ⟨M, hM⟩ : ∃ M : ByteArray, M = (⟨#[32]⟩ : ByteArray) ++ t ++ (⟨#[32]⟩ : ByteArray) := ⟨_, rfl⟩
      obtain ⟨T, hT⟩ : ∃ T : ByteArray, T = (⟨#[41]⟩ : ByteArray) := ⟨_, rfl⟩
      have HE : Hid (wrN (.mk 8 t ks a) = H.data.toList ++ jnW M.data.toList true (wrT ks) ++ T.data.toList) := by show _ = _; subst hH hM hT; simp [wrN, frW, ByteArray.data_append]
      have hl : pre.length + H.size + (jnW M.data.toList true (wrT ks)).length + T.size ≤ 1000000000 := by
        have := HL.out
        have q1 : H.data.toList.length = H.size := by simp
        have q2 : T.data.toList.length = T.size := by simp
        rw [HE.out, List.length_append, List.length_append] at this
        omega
      have z1 : (⟨#[32]⟩ : ByteArray).size + (t : ByteArray).size ≤ 9223372036854775807 := by show 1 + t.size ≤ _; omega
      have z2 : (⟨#[32]⟩ ++ t : ByteArray).size + (⟨#[32]⟩ : ByteArray).size ≤ 9223372036854775807 := by rw [ByteArray.size_append]; show 1 + t.size + 1 ≤ _; omega
      have HC : Hid (∀ (V : World), WB B b w pre V → Calls Tryd.prog 42 #[.pointer (some ⟨b, 0, none⟩), .string (⟨#[40]⟩), .slice sq ks.length sc, .string ((⟨#[32]⟩ : ByteArray) ++ t ++ (⟨#[32]⟩ : ByteArray)), .string (⟨#[41]⟩)] V fun e w' => e = .returned (.tuple #[]) ∧ WB B b w (pre ++ wrN (.mk 8 t ks a)) w') := fun V hV => by
        rw [HE.out]
        subst hH hM hT
        exact HK.out V _ _ _ hV hl
      clear HK HL HE hl hH hM hT H M T
      go_enter Tryd.func20, Tryd.ntmps20
      go_wp2_with fail
      refine (HC.out _ (H0.out.alloc (.cells [.int .i64 8, .string t, .slice sq ks.length sc, .int .i64 a].toArray 24))).mono ?_
      rintro e V ⟨rfl, hv⟩
      have HF : Hid (WB B b w (pre ++ wrN (.mk 8 t ks a)) V) := hv
      clear hv HC
      go_wp2
      exact bodyPost_end (v := .tuple #[]) (by simp [results, Tryd.results20, go_sem]) rfl ⟨rfl, HF.out⟩
    have g8 : (k == 8) = false := by simpa using h8
    rcases Classical.em (k = 9) with rfl | h9
    · obtain ⟨H, hH⟩ : ∃ H : ByteArray, H = t ++ (⟨#[40]⟩ : ByteArray) := ⟨_, rfl⟩
      obtain ⟨M, hM⟩ : ∃ M : ByteArray, M = (⟨#[44, 32]⟩ : ByteArray) := ⟨_, rfl⟩
      obtain ⟨T, hT⟩ : ∃ T : ByteArray, T = (⟨#[41]⟩ : ByteArray) := ⟨_, rfl⟩
      have HE : Hid (wrN (.mk 9 t ks a) = H.data.toList ++ jnW M.data.toList true (wrT ks) ++ T.data.toList) := by show _ = _; subst hH hM hT; simp [wrN, frW, ByteArray.data_append]
      have hl : pre.length + H.size + (jnW M.data.toList true (wrT ks)).length + T.size ≤ 1000000000 := by
        have := HL.out
        have q1 : H.data.toList.length = H.size := by simp
        have q2 : T.data.toList.length = T.size := by simp
        rw [HE.out, List.length_append, List.length_append] at this
        omega
      have z1 : (t : ByteArray).size + (⟨#[40]⟩ : ByteArray).size ≤ 9223372036854775807 := by show t.size + 1 ≤ _; omega
      have HC : Hid (∀ (V : World), WB B b w pre V → Calls Tryd.prog 42 #[.pointer (some ⟨b, 0, none⟩), .string (t ++ (⟨#[40]⟩ : ByteArray)), .slice sq ks.length sc, .string (⟨#[44, 32]⟩), .string (⟨#[41]⟩)] V fun e w' => e = .returned (.tuple #[]) ∧ WB B b w (pre ++ wrN (.mk 9 t ks a)) w') := fun V hV => by
        rw [HE.out]
        subst hH hM hT
        exact HK.out V _ _ _ hV hl
      clear HK HL HE hl hH hM hT H M T
      go_enter Tryd.func20, Tryd.ntmps20
      go_wp2_with fail
      refine (HC.out _ (H0.out.alloc (.cells [.int .i64 9, .string t, .slice sq ks.length sc, .int .i64 a].toArray 24))).mono ?_
      rintro e V ⟨rfl, hv⟩
      have HF : Hid (WB B b w (pre ++ wrN (.mk 9 t ks a)) V) := hv
      clear hv HC
      go_wp2
      exact bodyPost_end (v := .tuple #[]) (by simp [results, Tryd.results20, go_sem]) rfl ⟨rfl, HF.out⟩
    have g9 : (k == 9) = false := by simpa using h9
    rcases Classical.em (k = 10) with rfl | h10
    · obtain ⟨H, hH⟩ : ∃ H : ByteArray, H = (⟨#[40]⟩ : ByteArray) := ⟨_, rfl⟩
      obtain ⟨M, hM⟩ : ∃ M : ByteArray, M = (⟨#[]⟩ : ByteArray) := ⟨_, rfl⟩
      obtain ⟨T, hT⟩ : ∃ T : ByteArray, T = (⟨#[58, 58]⟩ : ByteArray) ++ t ++ (⟨#[41]⟩ : ByteArray) := ⟨_, rfl⟩
      have HE : Hid (wrN (.mk 10 t ks a) = H.data.toList ++ jnW M.data.toList true (wrT ks) ++ T.data.toList) := by show _ = _; subst hH hM hT; simp [wrN, frW, ByteArray.data_append]
      have hl : pre.length + H.size + (jnW M.data.toList true (wrT ks)).length + T.size ≤ 1000000000 := by
        have := HL.out
        have q1 : H.data.toList.length = H.size := by simp
        have q2 : T.data.toList.length = T.size := by simp
        rw [HE.out, List.length_append, List.length_append] at this
        omega
      have z1 : (⟨#[58, 58]⟩ : ByteArray).size + (t : ByteArray).size ≤ 9223372036854775807 := by show 2 + t.size ≤ _; omega
      have z2 : (⟨#[58, 58]⟩ ++ t : ByteArray).size + (⟨#[41]⟩ : ByteArray).size ≤ 9223372036854775807 := by rw [ByteArray.size_append]; show 2 + t.size + 1 ≤ _; omega
      have HC : Hid (∀ (V : World), WB B b w pre V → Calls Tryd.prog 42 #[.pointer (some ⟨b, 0, none⟩), .string (⟨#[40]⟩), .slice sq ks.length sc, .string (⟨#[]⟩), .string ((⟨#[58, 58]⟩ : ByteArray) ++ t ++ (⟨#[41]⟩ : ByteArray))] V fun e w' => e = .returned (.tuple #[]) ∧ WB B b w (pre ++ wrN (.mk 10 t ks a)) w') := fun V hV => by
        rw [HE.out]
        subst hH hM hT
        exact HK.out V _ _ _ hV hl
      clear HK HL HE hl hH hM hT H M T
      go_enter Tryd.func20, Tryd.ntmps20
      go_wp2_with fail
      refine (HC.out _ (H0.out.alloc (.cells [.int .i64 10, .string t, .slice sq ks.length sc, .int .i64 a].toArray 24))).mono ?_
      rintro e V ⟨rfl, hv⟩
      have HF : Hid (WB B b w (pre ++ wrN (.mk 10 t ks a)) V) := hv
      clear hv HC
      go_wp2
      exact bodyPost_end (v := .tuple #[]) (by simp [results, Tryd.results20, go_sem]) rfl ⟨rfl, HF.out⟩
    have g10 : (k == 10) = false := by simpa using h10
    have HE : Hid (wrN (.mk k t ks a) = []) := by show _ = _; simp [wrN, frW, h1, h2', h3, h4, h5, h6, h7, h8, h9, h10]
    have HF : Hid (WB B b w (pre ++ wrN (.mk k t ks a)) (w.alloc (.cells [.int .i64 k, .string t, .slice sq ks.length sc, .int .i64 a].toArray 24))) := by show WB _ _ _ _ _; rw [HE.out, List.append_nil]; exact H0.out.alloc _
    clear HK HL HE
    go_enter Tryd.func20, Tryd.ntmps20
    go_wp2
    exact bodyPost_end (v := .tuple #[]) (by simp [results, Tryd.results20, go_sem]) rfl ⟨rfl, HF.out⟩

set_option maxRecDepth 100000 in
set_option maxHeartbeats 4000000 in
theorem string_any (n : Nd) (htz : tzN n = true) (w : World) (m : Int) (c0 c1 c2 c3 : Value) (h : NdAt (fun _ => True) w n [c0, c1, c2, c3]) (h2 : 2 < w.heap.size) (hm : w.cell? ⟨2, 0, none⟩ = some (.int .i64 m)) (hlen : (wrN n).length ≤ 1000000000) :
    Calls Tryd.prog 10 #[.agg #[c0, c1, c2, c3]] w fun e w' => e = .returned (.string ⟨(wrN n).toArray⟩) ∧ Below w.heap.size w w' := by
  obtain ⟨k, t, sq, sn, sc, a, rfl, rfl, rfl, rfl⟩ := h.form
  have HN : Hid (NdAt (fun _ => True) w n _) := h
  have HM : Hid (w.cell? ⟨2, 0, none⟩ = some (.int .i64 m)) := hm
  have HC : Hid (WrOk n) := write_any n
  clear h hm
  obtain ⟨W0, hW0⟩ : ∃ W0, W0 = w.alloc (.cells [.int .i64 k, .string t, .slice sq sn sc, .int .i64 a].toArray 24) := ⟨_, rfl⟩
  have HK0 : Hid (Below w.heap.size w W0) := by rw [hW0]; exact (Below.refl _ w).alloc (Nat.le_refl _) _
  have hz : W0.heap.size = w.heap.size + 1 := by rw [hW0]; simp
  have HWB : Hid (WB W0.heap.size W0.heap.size (W0.alloc (.cells #[.pointer none, .slice none 0 0] 64)) [] (W0.alloc (.cells #[.pointer none, .slice none 0 0] 64))) := WB.start (built_new W0) (by simp)
  have HKA : Hid (Below w.heap.size w (W0.alloc (.cells #[.pointer none, .slice none 0 0] 64))) := HK0.out.alloc HK0.out.size _
  have HCW : Hid (Calls Tryd.prog 20 #[.pointer (some ⟨W0.heap.size, 0, none⟩), .agg #[.int .i64 k, .string t, .slice sq sn sc, .int .i64 a]] (W0.alloc (.cells #[.pointer none, .slice none 0 0] 64)) fun e w' => e = .returned (.tuple #[]) ∧ WB W0.heap.size W0.heap.size (W0.alloc (.cells #[.pointer none, .slice none 0 0] 64)) (wrN n) w') := by
    have q := HC.out htz W0.heap.size W0.heap.size _ [] m _ _ _ _ (NdAt.keep HKA.out.size (fun c _ hc => ⟨by omega, HKA.out.block c hc⟩) n _ HN.out) HWB.out (by omega) ((HKA.out.cell (p := ⟨2, 0, none⟩) h2).trans HM.out) (by simpa using hlen)
    rw [List.nil_append] at q
    exact q
  clear HC HN HWB
  generalize wrN n = R at *
  rw [hz] at HCW
  subst hW0
  clear hz
  go_enter Tryd.func10, Tryd.ntmps10
  go_wp2_with fail
  refine HCW.out.mono ?_
  rintro e V ⟨rfl, hv⟩
  have HV : Hid (WB _ _ _ R V) := hv
  clear hv HCW
  go_wp2_with fail
  refine (Tryd.Builder_String_any_k _ _ R V HV.out.1 HV.out.le).mono ?_
  rintro e V2 ⟨rfl, -, hb2, -⟩
  have HF : Hid (Below w.heap.size w V2) := (HKA.out.trans (HV.out.2.1.mono (by simp))).trans (hb2.mono (by simp))
  clear hb2 HV HKA HK0
  go_wp2
  go_ret
  exact ⟨rfl, HF.out⟩

end Go.Proofs.YtaoocecipacnhaaDoor
