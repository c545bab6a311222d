/- Contract: what must come of fixed calls of blob (the statements' known). -/
import Derived.Test.YtdonjdihffpghaaDoorBlR
import Derived.Deep.Cut
import Derived.Lib.SlBytesConst
namespace Go.Proofs.YtdonjdihffpghaaDoor
open Go.RowKit Sr
set_option linter.unusedVariables false

theorem sum_abc : smB [97, 98, 99] = 38600999 := by decide +kernel

set_option maxRecDepth 100000 in
set_option maxHeartbeats 4000000 in
theorem bknown_any (w : World) : Calls Tryd.prog 9 #[] w fun e w' => e = .returned (.bool true) ∧ Below w.heap.size w w' := by
  have HU : Hid (∀ w : World, Calls Tryd.prog 14 #[] w fun e w' => e = .returned (.agg utcL.toArray) ∧ Below w.heap.size w w') := utc_any
  have HP : Hid (∀ w : World, Calls Tryd.prog 10 #[.agg utcL.toArray] w fun e w' => ∃ v, e = .returned (.tuple #[v, .int .i64 0]) ∧ w'.ownsRow w.heap.size 5 1 v 34 (cellsB utcF) ∧ Below w.heap.size w w') := put_utc
  generalize hUA : utcL.toArray = UA at *
  go_enter Tryd.func9, Tryd.ntmps9
  go_wp2_with fail
  refine (HU.out _).mono ?_
  rintro e v1 ⟨rfl, hb1⟩
  go_wp2_with fail
  refine (HP.out _).mono ?_
  rintro e v2 ⟨v, rfl, hown, hb2⟩
  have HB2 : Hid (Below w.heap.size w v2) := hb1.trans (hb2.mono hb1.size)
  obtain ⟨g, c, cur, rfl, hg, hc, hcx, hcur⟩ : ∃ g c cur, v = .slice (some ⟨g, 0, none⟩) 34 c ∧ v2.heap[g]? = some (.cells cur 5 (0, 0)) ∧ 34 ≤ c ∧ c ≤ maxLen ∧ cur.toList.take 34 = cellsB utcF := by
    rcases hown.2 with ⟨_, z⟩ | ⟨g, cap, cur, rfl, _, hg, h1, h2, _, h3⟩
    · omega
    · exact ⟨g, cap, cur, rfl, hg, h1, h2, h3⟩
  have HG := get_utc g c v2 cur hc hcx hg hcur
  rw [hUA] at HG
  clear hown hb1 hb2 hcur hg HU HP hc hcx
  go_wp2_with fail
  refine HG.mono ?_
  rintro e v3 ⟨rfl, hb3⟩
  have HB3 : Hid (Below w.heap.size w v3) := HB2.out.trans (hb3.mono HB2.out.size)
  clear HB2 hb3 HG
  obtain ⟨tb, htb⟩ : ∃ tb, v3.heap.size = tb := ⟨_, rfl⟩
  have X1 : Hid (Bx (v3.alloc (.cells zerL.toArray 52)) tb zerL) := Bx.newAt v3 zerL 52 tb htb
  have B1 : Hid (Below w.heap.size w (v3.alloc (.cells zerL.toArray 52))) := HB3.out.alloc HB3.out.size _
  have hle : w.heap.size ≤ tb := by have := HB3.out.size; omega
  go_upto_region 3 with (refine wpList_store_mid rfl 52 _ _ rfl tb 0 UA rfl rfl (by rw [← hUA]; exact X1.out.there) (by rw [← hUA]; kernel_rfl) (by rw [← hUA]; exact one_utc) ?_; refine gen_list (fun V => Bx V tb utcL ∧ Below w.heap.size w V) ⟨by rw [← hUA]; exact X1.out.setAll utcL rfl, below_setCells hle _ _ _ B1.out⟩ ?_; clear X1 B1 HB3; rintro V ⟨XV, BV⟩)
  have hcv : (convert 22 22 (.slice (some ⟨V.heap.size, 0, none⟩) 3 3)).run Tryd.prog (V.alloc (.cells #[.int .u8 97, .int .u8 98, .int .u8 99] 5)) = .ok (.slice (some ⟨V.heap.size, 0, none⟩) 3 3) (V.alloc (.cells #[.int .u8 97, .int .u8 98, .int .u8 99] 5 (3, 4))) := Lib.run_convert_bytes_const V 22 5 #[.int .u8 97, .int .u8 98, .int .u8 99] 3 3 Tryd.underlying22 Tryd.underlying5
  obtain ⟨V3, hV3⟩ : ∃ V3, V.alloc (.cells #[.int .u8 97, .int .u8 98, .int .u8 99] 5 (3, 4)) = V3 := ⟨_, rfl⟩
  rw [hV3] at hcv
  have hb4 : Below V.heap.size V V3 := by rw [← hV3]; exact (Below.refl _ V).alloc (Nat.le_refl _) _
  have hh : V3.heap[V.heap.size]? = some (.cells (cellsB [97, 98, 99]).toArray 5 (3, 4)) := by rw [← hV3]; exact World.alloc_heap_new V _
  have HSum := sum_any (some ⟨V.heap.size, 0, none⟩) [97, 98, 99] 3 3 rfl (by decide) V3 (fun j x hj => ⟨_, rfl, by
    rw [addr_add0, Nat.zero_add]
    exact cell_of hh (by have := cellsB_get hj; rw [List.getElem?_toArray]; exact this)⟩)
  rw [sum_abc] at HSum
  have XV3 := XV.below hb4
  have c0 := XV3.c 0 rfl
  have c4 := XV3.c 4 rfl
  have HBF : Hid (Below w.heap.size w V3) := BV.trans (hb4.mono BV.size)
  clear hb4 hh XV XV3 BV hV3
  go_wp2_with fail
  refine HSum.mono ?_
  rintro e w' ⟨rfl, hw⟩
  obtain rfl := hw.symm
  clear hw HSum hcv
  go_wp2_with fail
  exact bodyPost_ret (v := .bool true) (by simp [results, Tryd.results9, go_sem]) rfl ⟨rfl, HBF.out⟩

end Go.Proofs.YtdonjdihffpghaaDoor
