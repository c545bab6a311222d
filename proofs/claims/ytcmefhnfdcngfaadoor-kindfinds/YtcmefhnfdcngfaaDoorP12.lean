import Derived.Test.YtcmefhnfdcngfaaDoorP0
import Derived.Test.YtcmefhnfdcngfaaDoorP11
import Derived.Deep.Cut
/- The reference's table of kinds, as the program makes it. -/
namespace Go.Proofs.YtcmefhnfdcngfaaDoor
open Go.RowKit
set_option linter.unusedVariables false

theorem Tryd_zint (w : World) : (zeroValue 3).run Tryd.prog w = .ok (.int .i64 0) w := by kernel_rfl
theorem Tryd_zrow (w : World) : (zeroValue 34).run Tryd.prog w = .ok (.agg #[.string ⟨#[]⟩, .slice none 0 0, .int .i64 0]) w := by kernel_rfl
def rtR (w : World) : List (ByteArray × List Int × Int) → List (Value × Value × Value)
  | [] => []
  | x :: l => (.string x.1, .slice (some ⟨w.heap.size, 0, none⟩) x.2.1.length x.2.1.length, .int .i64 x.2.2) :: rtR (w.alloc (.cells (x.2.1.map (fun k => Value.int .i64 k)).toArray 3)) l

def r3 (x : ByteArray × List Int × Int) (b : Nat) : Value × Value × Value := (.string x.1, .slice (some ⟨b, 0, none⟩) x.2.1.length x.2.1.length, .int .i64 x.2.2)
/-- so many blocks, one behind the other. -/
def Ch : World → List (ByteArray × List Int × Int) → List Nat → World → Prop
  | w, [], [], W => W = w
  | w, x :: l, b :: bs, W => b = w.heap.size ∧ ∃ w1, w1 = w.alloc (.cells (x.2.1.map (fun k => Value.int .i64 k)).toArray 3) ∧ Ch w1 l bs W
  | _, _, _, _ => False
theorem ch_is : ∀ (l : List (ByteArray × List Int × Int)) (bs : List Nat) (w W : World), Ch w l bs W → W = rtW w l ∧ rtR w l = List.zipWith r3 l bs
  | [], [], w, W, h => ⟨h, rfl⟩
  | [], b :: bs, w, W, h => h.elim
  | x :: l, [], w, W, h => h.elim
  | x :: l, b :: bs, w, W, h => by
    obtain ⟨rfl, w1, rfl, h⟩ := h
    obtain ⟨q1, q2⟩ := ch_is l bs _ W h
    exact ⟨q1, by rw [rtR, q2]; rfl⟩

set_option maxRecDepth 1000000 in
set_option maxHeartbeats 8000000 in
theorem rtable_any (w : World) :
    Calls Tryd.prog 15 #[] w fun e w' => e = .returned (.slice (some ⟨(rtW w rtb).heap.size, 0, none⟩) 90 90) ∧ w' = (rtW w rtb).alloc (.cells (fl3 (rtR w rtb)).toArray 34) := by
  go_enter Tryd.func15, Tryd.ntmps15
  go_upto_region 1 with fail
  apply wp_region_lit
  simp only [List.append_eq, List.cons_append, List.nil_append]
  refine wpl_ints rfl 22 3 2 _ rfl [2, 2] rfl rfl ⟨_, Tryd_zint _⟩ rfl (by decide) (by decide) (by kernel_rfl) ?_
  intro b0 w0 hb0 hw0
  refine wpl_put rfl (.agg #[.string ⟨#[43]⟩, .slice (some ⟨b0, 0, none⟩) 2 2, .int .i64 2]) (by kernel_rfl) ?_
  refine wpl_ints rfl 22 3 2 _ rfl [3, 3] rfl rfl ⟨_, Tryd_zint _⟩ rfl (by decide) (by decide) (by kernel_rfl) ?_
  intro b1 w1 hb1 hw1
  refine wpl_put rfl (.agg #[.string ⟨#[43]⟩, .slice (some ⟨b1, 0, none⟩) 2 2, .int .i64 3]) (by kernel_rfl) ?_
  refine wpl_ints rfl 22 3 2 _ rfl [2, 3] rfl rfl ⟨_, Tryd_zint _⟩ rfl (by decide) (by decide) (by kernel_rfl) ?_
  intro b2 w2 hb2 hw2
  refine wpl_put rfl (.agg #[.string ⟨#[43]⟩, .slice (some ⟨b2, 0, none⟩) 2 2, .int .i64 3]) (by kernel_rfl) ?_
  refine wpl_ints rfl 22 3 2 _ rfl [3, 2] rfl rfl ⟨_, Tryd_zint _⟩ rfl (by decide) (by decide) (by kernel_rfl) ?_
  intro b3 w3 hb3 hw3
  refine wpl_put rfl (.agg #[.string ⟨#[43]⟩, .slice (some ⟨b3, 0, none⟩) 2 2, .int .i64 3]) (by kernel_rfl) ?_
  refine wpl_ints rfl 22 3 2 _ rfl [5, 2] rfl rfl ⟨_, Tryd_zint _⟩ rfl (by decide) (by decide) (by kernel_rfl) ?_
  intro b4 w4 hb4 hw4
  refine wpl_put rfl (.agg #[.string ⟨#[43]⟩, .slice (some ⟨b4, 0, none⟩) 2 2, .int .i64 5]) (by kernel_rfl) ?_
  refine wpl_ints rfl 22 3 2 _ rfl [2, 5] rfl rfl ⟨_, Tryd_zint _⟩ rfl (by decide) (by decide) (by kernel_rfl) ?_
  intro b5 w5 hb5 hw5
  refine wpl_put rfl (.agg #[.string ⟨#[43]⟩, .slice (some ⟨b5, 0, none⟩) 2 2, .int .i64 5]) (by kernel_rfl) ?_
  refine wpl_ints rfl 22 3 2 _ rfl [5, 8] rfl rfl ⟨_, Tryd_zint _⟩ rfl (by decide) (by decide) (by kernel_rfl) ?_
  intro b6 w6 hb6 hw6
  refine wpl_put rfl (.agg #[.string ⟨#[43]⟩, .slice (some ⟨b6, 0, none⟩) 2 2, .int .i64 6]) (by kernel_rfl) ?_
  refine wpl_ints rfl 22 3 2 _ rfl [8, 5] rfl rfl ⟨_, Tryd_zint _⟩ rfl (by decide) (by decide) (by kernel_rfl) ?_
  intro b7 w7 hb7 hw7
  refine wpl_put rfl (.agg #[.string ⟨#[43]⟩, .slice (some ⟨b7, 0, none⟩) 2 2, .int .i64 6]) (by kernel_rfl) ?_
  refine wpl_ints rfl 22 3 2 _ rfl [6, 8] rfl rfl ⟨_, Tryd_zint _⟩ rfl (by decide) (by decide) (by kernel_rfl) ?_
  intro b8 w8 hb8 hw8
  refine wpl_put rfl (.agg #[.string ⟨#[43]⟩, .slice (some ⟨b8, 0, none⟩) 2 2, .int .i64 6]) (by kernel_rfl) ?_
  refine wpl_ints rfl 22 3 2 _ rfl [8, 6] rfl rfl ⟨_, Tryd_zint _⟩ rfl (by decide) (by decide) (by kernel_rfl) ?_
  intro b9 w9 hb9 hw9
  refine wpl_put rfl (.agg #[.string ⟨#[43]⟩, .slice (some ⟨b9, 0, none⟩) 2 2, .int .i64 6]) (by kernel_rfl) ?_
  refine wpl_ints rfl 22 3 2 _ rfl [7, 8] rfl rfl ⟨_, Tryd_zint _⟩ rfl (by decide) (by decide) (by kernel_rfl) ?_
  intro b10 w10 hb10 hw10
  refine wpl_put rfl (.agg #[.string ⟨#[43]⟩, .slice (some ⟨b10, 0, none⟩) 2 2, .int .i64 7]) (by kernel_rfl) ?_
  refine wpl_ints rfl 22 3 2 _ rfl [8, 7] rfl rfl ⟨_, Tryd_zint _⟩ rfl (by decide) (by decide) (by kernel_rfl) ?_
  intro b11 w11 hb11 hw11
  refine wpl_put rfl (.agg #[.string ⟨#[43]⟩, .slice (some ⟨b11, 0, none⟩) 2 2, .int .i64 7]) (by kernel_rfl) ?_
  refine wpl_ints rfl 22 3 2 _ rfl [8, 8] rfl rfl ⟨_, Tryd_zint _⟩ rfl (by decide) (by decide) (by kernel_rfl) ?_
  intro b12 w12 hb12 hw12
  refine wpl_put rfl (.agg #[.string ⟨#[43]⟩, .slice (some ⟨b12, 0, none⟩) 2 2, .int .i64 8]) (by kernel_rfl) ?_
  refine wpl_ints rfl 22 3 2 _ rfl [2, 2] rfl rfl ⟨_, Tryd_zint _⟩ rfl (by decide) (by decide) (by kernel_rfl) ?_
  intro b13 w13 hb13 hw13
  refine wpl_put rfl (.agg #[.string ⟨#[45]⟩, .slice (some ⟨b13, 0, none⟩) 2 2, .int .i64 2]) (by kernel_rfl) ?_
  refine wpl_ints rfl 22 3 2 _ rfl [3, 3] rfl rfl ⟨_, Tryd_zint _⟩ rfl (by decide) (by decide) (by kernel_rfl) ?_
  intro b14 w14 hb14 hw14
  refine wpl_put rfl (.agg #[.string ⟨#[45]⟩, .slice (some ⟨b14, 0, none⟩) 2 2, .int .i64 3]) (by kernel_rfl) ?_
  refine wpl_ints rfl 22 3 2 _ rfl [2, 3] rfl rfl ⟨_, Tryd_zint _⟩ rfl (by decide) (by decide) (by kernel_rfl) ?_
  intro b15 w15 hb15 hw15
  refine wpl_put rfl (.agg #[.string ⟨#[45]⟩, .slice (some ⟨b15, 0, none⟩) 2 2, .int .i64 3]) (by kernel_rfl) ?_
  refine wpl_ints rfl 22 3 2 _ rfl [3, 2] rfl rfl ⟨_, Tryd_zint _⟩ rfl (by decide) (by decide) (by kernel_rfl) ?_
  intro b16 w16 hb16 hw16
  refine wpl_put rfl (.agg #[.string ⟨#[45]⟩, .slice (some ⟨b16, 0, none⟩) 2 2, .int .i64 3]) (by kernel_rfl) ?_
  refine wpl_ints rfl 22 3 2 _ rfl [5, 2] rfl rfl ⟨_, Tryd_zint _⟩ rfl (by decide) (by decide) (by kernel_rfl) ?_
  intro b17 w17 hb17 hw17
  refine wpl_put rfl (.agg #[.string ⟨#[45]⟩, .slice (some ⟨b17, 0, none⟩) 2 2, .int .i64 5]) (by kernel_rfl) ?_
  refine wpl_ints rfl 22 3 2 _ rfl [5, 5] rfl rfl ⟨_, Tryd_zint _⟩ rfl (by decide) (by decide) (by kernel_rfl) ?_
  intro b18 w18 hb18 hw18
  refine wpl_put rfl (.agg #[.string ⟨#[45]⟩, .slice (some ⟨b18, 0, none⟩) 2 2, .int .i64 2]) (by kernel_rfl) ?_
  refine wpl_ints rfl 22 3 2 _ rfl [5, 8] rfl rfl ⟨_, Tryd_zint _⟩ rfl (by decide) (by decide) (by kernel_rfl) ?_
  intro b19 w19 hb19 hw19
  refine wpl_put rfl (.agg #[.string ⟨#[45]⟩, .slice (some ⟨b19, 0, none⟩) 2 2, .int .i64 6]) (by kernel_rfl) ?_
  refine wpl_ints rfl 22 3 2 _ rfl [6, 8] rfl rfl ⟨_, Tryd_zint _⟩ rfl (by decide) (by decide) (by kernel_rfl) ?_
  intro b20 w20 hb20 hw20
  refine wpl_put rfl (.agg #[.string ⟨#[45]⟩, .slice (some ⟨b20, 0, none⟩) 2 2, .int .i64 6]) (by kernel_rfl) ?_
  refine wpl_ints rfl 22 3 2 _ rfl [6, 6] rfl rfl ⟨_, Tryd_zint _⟩ rfl (by decide) (by decide) (by kernel_rfl) ?_
  intro b21 w21 hb21 hw21
  refine wpl_put rfl (.agg #[.string ⟨#[45]⟩, .slice (some ⟨b21, 0, none⟩) 2 2, .int .i64 8]) (by kernel_rfl) ?_
  refine wpl_ints rfl 22 3 2 _ rfl [7, 8] rfl rfl ⟨_, Tryd_zint _⟩ rfl (by decide) (by decide) (by kernel_rfl) ?_
  intro b22 w22 hb22 hw22
  refine wpl_put rfl (.agg #[.string ⟨#[45]⟩, .slice (some ⟨b22, 0, none⟩) 2 2, .int .i64 7]) (by kernel_rfl) ?_
  refine wpl_ints rfl 22 3 2 _ rfl [7, 7] rfl rfl ⟨_, Tryd_zint _⟩ rfl (by decide) (by decide) (by kernel_rfl) ?_
  intro b23 w23 hb23 hw23
  refine wpl_put rfl (.agg #[.string ⟨#[45]⟩, .slice (some ⟨b23, 0, none⟩) 2 2, .int .i64 8]) (by kernel_rfl) ?_
  refine wpl_ints rfl 22 3 2 _ rfl [8, 8] rfl rfl ⟨_, Tryd_zint _⟩ rfl (by decide) (by decide) (by kernel_rfl) ?_
  intro b24 w24 hb24 hw24
  refine wpl_put rfl (.agg #[.string ⟨#[45]⟩, .slice (some ⟨b24, 0, none⟩) 2 2, .int .i64 8]) (by kernel_rfl) ?_
  refine wpl_ints rfl 22 3 2 _ rfl [2, 2] rfl rfl ⟨_, Tryd_zint _⟩ rfl (by decide) (by decide) (by kernel_rfl) ?_
  intro b25 w25 hb25 hw25
  refine wpl_put rfl (.agg #[.string ⟨#[42]⟩, .slice (some ⟨b25, 0, none⟩) 2 2, .int .i64 2]) (by kernel_rfl) ?_
  refine wpl_ints rfl 22 3 2 _ rfl [3, 3] rfl rfl ⟨_, Tryd_zint _⟩ rfl (by decide) (by decide) (by kernel_rfl) ?_
  intro b26 w26 hb26 hw26
  refine wpl_put rfl (.agg #[.string ⟨#[42]⟩, .slice (some ⟨b26, 0, none⟩) 2 2, .int .i64 3]) (by kernel_rfl) ?_
  refine wpl_ints rfl 22 3 2 _ rfl [2, 3] rfl rfl ⟨_, Tryd_zint _⟩ rfl (by decide) (by decide) (by kernel_rfl) ?_
  intro b27 w27 hb27 hw27
  refine wpl_put rfl (.agg #[.string ⟨#[42]⟩, .slice (some ⟨b27, 0, none⟩) 2 2, .int .i64 3]) (by kernel_rfl) ?_
  refine wpl_ints rfl 22 3 2 _ rfl [3, 2] rfl rfl ⟨_, Tryd_zint _⟩ rfl (by decide) (by decide) (by kernel_rfl) ?_
  intro b28 w28 hb28 hw28
  refine wpl_put rfl (.agg #[.string ⟨#[42]⟩, .slice (some ⟨b28, 0, none⟩) 2 2, .int .i64 3]) (by kernel_rfl) ?_
  refine wpl_ints rfl 22 3 2 _ rfl [8, 2] rfl rfl ⟨_, Tryd_zint _⟩ rfl (by decide) (by decide) (by kernel_rfl) ?_
  intro b29 w29 hb29 hw29
  refine wpl_put rfl (.agg #[.string ⟨#[42]⟩, .slice (some ⟨b29, 0, none⟩) 2 2, .int .i64 8]) (by kernel_rfl) ?_
  refine wpl_ints rfl 22 3 2 _ rfl [2, 8] rfl rfl ⟨_, Tryd_zint _⟩ rfl (by decide) (by decide) (by kernel_rfl) ?_
  intro b30 w30 hb30 hw30
  refine wpl_put rfl (.agg #[.string ⟨#[42]⟩, .slice (some ⟨b30, 0, none⟩) 2 2, .int .i64 8]) (by kernel_rfl) ?_
  refine wpl_ints rfl 22 3 2 _ rfl [2, 2] rfl rfl ⟨_, Tryd_zint _⟩ rfl (by decide) (by decide) (by kernel_rfl) ?_
  intro b31 w31 hb31 hw31
  refine wpl_put rfl (.agg #[.string ⟨#[47]⟩, .slice (some ⟨b31, 0, none⟩) 2 2, .int .i64 2]) (by kernel_rfl) ?_
  refine wpl_ints rfl 22 3 2 _ rfl [2, 2] rfl rfl ⟨_, Tryd_zint _⟩ rfl (by decide) (by decide) (by kernel_rfl) ?_
  intro b32 w32 hb32 hw32
  refine wpl_put rfl (.agg #[.string ⟨#[37]⟩, .slice (some ⟨b32, 0, none⟩) 2 2, .int .i64 2]) (by kernel_rfl) ?_
  refine wpl_ints rfl 22 3 2 _ rfl [1, 1] rfl rfl ⟨_, Tryd_zint _⟩ rfl (by decide) (by decide) (by kernel_rfl) ?_
  intro b33 w33 hb33 hw33
  refine wpl_put rfl (.agg #[.string ⟨#[97, 110, 100]⟩, .slice (some ⟨b33, 0, none⟩) 2 2, .int .i64 1]) (by kernel_rfl) ?_
  refine wpl_ints rfl 22 3 2 _ rfl [1, 1] rfl rfl ⟨_, Tryd_zint _⟩ rfl (by decide) (by decide) (by kernel_rfl) ?_
  intro b34 w34 hb34 hw34
  refine wpl_put rfl (.agg #[.string ⟨#[111, 114]⟩, .slice (some ⟨b34, 0, none⟩) 2 2, .int .i64 1]) (by kernel_rfl) ?_
  refine wpl_ints rfl 22 3 1 _ rfl [1] rfl rfl ⟨_, Tryd_zint _⟩ rfl (by decide) (by decide) (by kernel_rfl) ?_
  intro b35 w35 hb35 hw35
  refine wpl_put rfl (.agg #[.string ⟨#[110, 111, 116]⟩, .slice (some ⟨b35, 0, none⟩) 1 1, .int .i64 1]) (by kernel_rfl) ?_
  refine wpl_ints rfl 22 3 1 _ rfl [2] rfl rfl ⟨_, Tryd_zint _⟩ rfl (by decide) (by decide) (by kernel_rfl) ?_
  intro b36 w36 hb36 hw36
  refine wpl_put rfl (.agg #[.string ⟨#[110, 101, 103]⟩, .slice (some ⟨b36, 0, none⟩) 1 1, .int .i64 2]) (by kernel_rfl) ?_
  refine wpl_ints rfl 22 3 1 _ rfl [3] rfl rfl ⟨_, Tryd_zint _⟩ rfl (by decide) (by decide) (by kernel_rfl) ?_
  intro b37 w37 hb37 hw37
  refine wpl_put rfl (.agg #[.string ⟨#[110, 101, 103]⟩, .slice (some ⟨b37, 0, none⟩) 1 1, .int .i64 3]) (by kernel_rfl) ?_
  refine wpl_ints rfl 22 3 1 _ rfl [8] rfl rfl ⟨_, Tryd_zint _⟩ rfl (by decide) (by decide) (by kernel_rfl) ?_
  intro b38 w38 hb38 hw38
  refine wpl_put rfl (.agg #[.string ⟨#[110, 101, 103]⟩, .slice (some ⟨b38, 0, none⟩) 1 1, .int .i64 8]) (by kernel_rfl) ?_
  refine wpl_ints rfl 22 3 2 _ rfl [6, 4] rfl rfl ⟨_, Tryd_zint _⟩ rfl (by decide) (by decide) (by kernel_rfl) ?_
  intro b39 w39 hb39 hw39
  refine wpl_put rfl (.agg #[.string ⟨#[97, 116, 32, 116, 105, 109, 101, 32, 122, 111, 110, 101]⟩, .slice (some ⟨b39, 0, none⟩) 2 2, .int .i64 7]) (by kernel_rfl) ?_
  refine wpl_ints rfl 22 3 2 _ rfl [7, 4] rfl rfl ⟨_, Tryd_zint _⟩ rfl (by decide) (by decide) (by kernel_rfl) ?_
  intro b40 w40 hb40 hw40
  refine wpl_put rfl (.agg #[.string ⟨#[97, 116, 32, 116, 105, 109, 101, 32, 122, 111, 110, 101]⟩, .slice (some ⟨b40, 0, none⟩) 2 2, .int .i64 6]) (by kernel_rfl) ?_
  refine wpl_ints rfl 22 3 1 _ rfl [2] rfl rfl ⟨_, Tryd_zint _⟩ rfl (by decide) (by decide) (by kernel_rfl) ?_
  intro b41 w41 hb41 hw41
  refine wpl_put rfl (.agg #[.string ⟨#[58, 58, 116, 101, 120, 116]⟩, .slice (some ⟨b41, 0, none⟩) 1 1, .int .i64 4]) (by kernel_rfl) ?_
  refine wpl_ints rfl 22 3 1 _ rfl [3] rfl rfl ⟨_, Tryd_zint _⟩ rfl (by decide) (by decide) (by kernel_rfl) ?_
  intro b42 w42 hb42 hw42
  refine wpl_put rfl (.agg #[.string ⟨#[58, 58, 116, 101, 120, 116]⟩, .slice (some ⟨b42, 0, none⟩) 1 1, .int .i64 4]) (by kernel_rfl) ?_
  refine wpl_ints rfl 22 3 1 _ rfl [1] rfl rfl ⟨_, Tryd_zint _⟩ rfl (by decide) (by decide) (by kernel_rfl) ?_
  intro b43 w43 hb43 hw43
  refine wpl_put rfl (.agg #[.string ⟨#[58, 58, 116, 101, 120, 116]⟩, .slice (some ⟨b43, 0, none⟩) 1 1, .int .i64 4]) (by kernel_rfl) ?_
  refine wpl_ints rfl 22 3 1 _ rfl [4] rfl rfl ⟨_, Tryd_zint _⟩ rfl (by decide) (by decide) (by kernel_rfl) ?_
  intro b44 w44 hb44 hw44
  refine wpl_put rfl (.agg #[.string ⟨#[58, 58, 116, 101, 120, 116]⟩, .slice (some ⟨b44, 0, none⟩) 1 1, .int .i64 4]) (by kernel_rfl) ?_
  refine wpl_ints rfl 22 3 1 _ rfl [5] rfl rfl ⟨_, Tryd_zint _⟩ rfl (by decide) (by decide) (by kernel_rfl) ?_
  intro b45 w45 hb45 hw45
  refine wpl_put rfl (.agg #[.string ⟨#[58, 58, 116, 101, 120, 116]⟩, .slice (some ⟨b45, 0, none⟩) 1 1, .int .i64 4]) (by kernel_rfl) ?_
  refine wpl_ints rfl 22 3 1 _ rfl [6] rfl rfl ⟨_, Tryd_zint _⟩ rfl (by decide) (by decide) (by kernel_rfl) ?_
  intro b46 w46 hb46 hw46
  refine wpl_put rfl (.agg #[.string ⟨#[58, 58, 116, 101, 120, 116]⟩, .slice (some ⟨b46, 0, none⟩) 1 1, .int .i64 4]) (by kernel_rfl) ?_
  refine wpl_ints rfl 22 3 1 _ rfl [7] rfl rfl ⟨_, Tryd_zint _⟩ rfl (by decide) (by decide) (by kernel_rfl) ?_
  intro b47 w47 hb47 hw47
  refine wpl_put rfl (.agg #[.string ⟨#[58, 58, 116, 101, 120, 116]⟩, .slice (some ⟨b47, 0, none⟩) 1 1, .int .i64 4]) (by kernel_rfl) ?_
  refine wpl_ints rfl 22 3 1 _ rfl [8] rfl rfl ⟨_, Tryd_zint _⟩ rfl (by decide) (by decide) (by kernel_rfl) ?_
  intro b48 w48 hb48 hw48
  refine wpl_put rfl (.agg #[.string ⟨#[58, 58, 116, 101, 120, 116]⟩, .slice (some ⟨b48, 0, none⟩) 1 1, .int .i64 4]) (by kernel_rfl) ?_
  refine wpl_ints rfl 22 3 1 _ rfl [4] rfl rfl ⟨_, Tryd_zint _⟩ rfl (by decide) (by decide) (by kernel_rfl) ?_
  intro b49 w49 hb49 hw49
  refine wpl_put rfl (.agg #[.string ⟨#[58, 58, 100, 97, 116, 101]⟩, .slice (some ⟨b49, 0, none⟩) 1 1, .int .i64 5]) (by kernel_rfl) ?_
  refine wpl_ints rfl 22 3 1 _ rfl [5] rfl rfl ⟨_, Tryd_zint _⟩ rfl (by decide) (by decide) (by kernel_rfl) ?_
  intro b50 w50 hb50 hw50
  refine wpl_put rfl (.agg #[.string ⟨#[58, 58, 100, 97, 116, 101]⟩, .slice (some ⟨b50, 0, none⟩) 1 1, .int .i64 5]) (by kernel_rfl) ?_
  refine wpl_ints rfl 22 3 1 _ rfl [6] rfl rfl ⟨_, Tryd_zint _⟩ rfl (by decide) (by decide) (by kernel_rfl) ?_
  intro b51 w51 hb51 hw51
  refine wpl_put rfl (.agg #[.string ⟨#[58, 58, 100, 97, 116, 101]⟩, .slice (some ⟨b51, 0, none⟩) 1 1, .int .i64 5]) (by kernel_rfl) ?_
  refine wpl_ints rfl 22 3 1 _ rfl [7] rfl rfl ⟨_, Tryd_zint _⟩ rfl (by decide) (by decide) (by kernel_rfl) ?_
  intro b52 w52 hb52 hw52
  refine wpl_put rfl (.agg #[.string ⟨#[58, 58, 100, 97, 116, 101]⟩, .slice (some ⟨b52, 0, none⟩) 1 1, .int .i64 5]) (by kernel_rfl) ?_
  refine wpl_ints rfl 22 3 1 _ rfl [4] rfl rfl ⟨_, Tryd_zint _⟩ rfl (by decide) (by decide) (by kernel_rfl) ?_
  intro b53 w53 hb53 hw53
  refine wpl_put rfl (.agg #[.string ⟨#[58, 58, 116, 105, 109, 101, 115, 116, 97, 109, 112]⟩, .slice (some ⟨b53, 0, none⟩) 1 1, .int .i64 6]) (by kernel_rfl) ?_
  refine wpl_ints rfl 22 3 1 _ rfl [5] rfl rfl ⟨_, Tryd_zint _⟩ rfl (by decide) (by decide) (by kernel_rfl) ?_
  intro b54 w54 hb54 hw54
  refine wpl_put rfl (.agg #[.string ⟨#[58, 58, 116, 105, 109, 101, 115, 116, 97, 109, 112]⟩, .slice (some ⟨b54, 0, none⟩) 1 1, .int .i64 6]) (by kernel_rfl) ?_
  refine wpl_ints rfl 22 3 1 _ rfl [6] rfl rfl ⟨_, Tryd_zint _⟩ rfl (by decide) (by decide) (by kernel_rfl) ?_
  intro b55 w55 hb55 hw55
  refine wpl_put rfl (.agg #[.string ⟨#[58, 58, 116, 105, 109, 101, 115, 116, 97, 109, 112]⟩, .slice (some ⟨b55, 0, none⟩) 1 1, .int .i64 6]) (by kernel_rfl) ?_
  refine wpl_ints rfl 22 3 1 _ rfl [7] rfl rfl ⟨_, Tryd_zint _⟩ rfl (by decide) (by decide) (by kernel_rfl) ?_
  intro b56 w56 hb56 hw56
  refine wpl_put rfl (.agg #[.string ⟨#[58, 58, 116, 105, 109, 101, 115, 116, 97, 109, 112]⟩, .slice (some ⟨b56, 0, none⟩) 1 1, .int .i64 6]) (by kernel_rfl) ?_
  refine wpl_ints rfl 22 3 1 _ rfl [4] rfl rfl ⟨_, Tryd_zint _⟩ rfl (by decide) (by decide) (by kernel_rfl) ?_
  intro b57 w57 hb57 hw57
  refine wpl_put rfl (.agg #[.string ⟨#[58, 58, 116, 105, 109, 101, 115, 116, 97, 109, 112, 116, 122]⟩, .slice (some ⟨b57, 0, none⟩) 1 1, .int .i64 7]) (by kernel_rfl) ?_
  refine wpl_ints rfl 22 3 1 _ rfl [5] rfl rfl ⟨_, Tryd_zint _⟩ rfl (by decide) (by decide) (by kernel_rfl) ?_
  intro b58 w58 hb58 hw58
  refine wpl_put rfl (.agg #[.string ⟨#[58, 58, 116, 105, 109, 101, 115, 116, 97, 109, 112, 116, 122]⟩, .slice (some ⟨b58, 0, none⟩) 1 1, .int .i64 7]) (by kernel_rfl) ?_
  refine wpl_ints rfl 22 3 1 _ rfl [6] rfl rfl ⟨_, Tryd_zint _⟩ rfl (by decide) (by decide) (by kernel_rfl) ?_
  intro b59 w59 hb59 hw59
  refine wpl_put rfl (.agg #[.string ⟨#[58, 58, 116, 105, 109, 101, 115, 116, 97, 109, 112, 116, 122]⟩, .slice (some ⟨b59, 0, none⟩) 1 1, .int .i64 7]) (by kernel_rfl) ?_
  refine wpl_ints rfl 22 3 1 _ rfl [7] rfl rfl ⟨_, Tryd_zint _⟩ rfl (by decide) (by decide) (by kernel_rfl) ?_
  intro b60 w60 hb60 hw60
  refine wpl_put rfl (.agg #[.string ⟨#[58, 58, 116, 105, 109, 101, 115, 116, 97, 109, 112, 116, 122]⟩, .slice (some ⟨b60, 0, none⟩) 1 1, .int .i64 7]) (by kernel_rfl) ?_
  refine wpl_ints rfl 22 3 1 _ rfl [4] rfl rfl ⟨_, Tryd_zint _⟩ rfl (by decide) (by decide) (by kernel_rfl) ?_
  intro b61 w61 hb61 hw61
  refine wpl_put rfl (.agg #[.string ⟨#[58, 58, 105, 110, 116, 101, 114, 118, 97, 108]⟩, .slice (some ⟨b61, 0, none⟩) 1 1, .int .i64 8]) (by kernel_rfl) ?_
  refine wpl_ints rfl 22 3 1 _ rfl [8] rfl rfl ⟨_, Tryd_zint _⟩ rfl (by decide) (by decide) (by kernel_rfl) ?_
  intro b62 w62 hb62 hw62
  refine wpl_put rfl (.agg #[.string ⟨#[58, 58, 105, 110, 116, 101, 114, 118, 97, 108]⟩, .slice (some ⟨b62, 0, none⟩) 1 1, .int .i64 8]) (by kernel_rfl) ?_
  refine wpl_ints rfl 22 3 1 _ rfl [4] rfl rfl ⟨_, Tryd_zint _⟩ rfl (by decide) (by decide) (by kernel_rfl) ?_
  intro b63 w63 hb63 hw63
  refine wpl_put rfl (.agg #[.string ⟨#[58, 58, 105, 110, 116]⟩, .slice (some ⟨b63, 0, none⟩) 1 1, .int .i64 2]) (by kernel_rfl) ?_
  refine wpl_ints rfl 22 3 1 _ rfl [2] rfl rfl ⟨_, Tryd_zint _⟩ rfl (by decide) (by decide) (by kernel_rfl) ?_
  intro b64 w64 hb64 hw64
  refine wpl_put rfl (.agg #[.string ⟨#[58, 58, 105, 110, 116]⟩, .slice (some ⟨b64, 0, none⟩) 1 1, .int .i64 2]) (by kernel_rfl) ?_
  refine wpl_ints rfl 22 3 1 _ rfl [3] rfl rfl ⟨_, Tryd_zint _⟩ rfl (by decide) (by decide) (by kernel_rfl) ?_
  intro b65 w65 hb65 hw65
  refine wpl_put rfl (.agg #[.string ⟨#[58, 58, 105, 110, 116]⟩, .slice (some ⟨b65, 0, none⟩) 1 1, .int .i64 2]) (by kernel_rfl) ?_
  refine wpl_ints rfl 22 3 1 _ rfl [4] rfl rfl ⟨_, Tryd_zint _⟩ rfl (by decide) (by decide) (by kernel_rfl) ?_
  intro b66 w66 hb66 hw66
  refine wpl_put rfl (.agg #[.string ⟨#[58, 58, 110, 117, 109, 101, 114, 105, 99]⟩, .slice (some ⟨b66, 0, none⟩) 1 1, .int .i64 3]) (by kernel_rfl) ?_
  refine wpl_ints rfl 22 3 1 _ rfl [2] rfl rfl ⟨_, Tryd_zint _⟩ rfl (by decide) (by decide) (by kernel_rfl) ?_
  intro b67 w67 hb67 hw67
  refine wpl_put rfl (.agg #[.string ⟨#[58, 58, 110, 117, 109, 101, 114, 105, 99]⟩, .slice (some ⟨b67, 0, none⟩) 1 1, .int .i64 3]) (by kernel_rfl) ?_
  refine wpl_ints rfl 22 3 1 _ rfl [3] rfl rfl ⟨_, Tryd_zint _⟩ rfl (by decide) (by decide) (by kernel_rfl) ?_
  intro b68 w68 hb68 hw68
  refine wpl_put rfl (.agg #[.string ⟨#[58, 58, 110, 117, 109, 101, 114, 105, 99]⟩, .slice (some ⟨b68, 0, none⟩) 1 1, .int .i64 3]) (by kernel_rfl) ?_
  refine wpl_ints rfl 22 3 2 _ rfl [4, 6] rfl rfl ⟨_, Tryd_zint _⟩ rfl (by decide) (by decide) (by kernel_rfl) ?_
  intro b69 w69 hb69 hw69
  refine wpl_put rfl (.agg #[.string ⟨#[100, 97, 116, 101, 95, 116, 114, 117, 110, 99]⟩, .slice (some ⟨b69, 0, none⟩) 2 2, .int .i64 6]) (by kernel_rfl) ?_
  refine wpl_ints rfl 22 3 2 _ rfl [4, 7] rfl rfl ⟨_, Tryd_zint _⟩ rfl (by decide) (by decide) (by kernel_rfl) ?_
  intro b70 w70 hb70 hw70
  refine wpl_put rfl (.agg #[.string ⟨#[100, 97, 116, 101, 95, 116, 114, 117, 110, 99]⟩, .slice (some ⟨b70, 0, none⟩) 2 2, .int .i64 7]) (by kernel_rfl) ?_
  refine wpl_ints rfl 22 3 3 _ rfl [4, 7, 4] rfl rfl ⟨_, Tryd_zint _⟩ rfl (by decide) (by decide) (by kernel_rfl) ?_
  intro b71 w71 hb71 hw71
  refine wpl_put rfl (.agg #[.string ⟨#[100, 97, 116, 101, 95, 116, 114, 117, 110, 99]⟩, .slice (some ⟨b71, 0, none⟩) 3 3, .int .i64 7]) (by kernel_rfl) ?_
  refine wpl_ints rfl 22 3 3 _ rfl [8, 6, 6] rfl rfl ⟨_, Tryd_zint _⟩ rfl (by decide) (by decide) (by kernel_rfl) ?_
  intro b72 w72 hb72 hw72
  refine wpl_put rfl (.agg #[.string ⟨#[100, 97, 116, 101, 95, 98, 105, 110]⟩, .slice (some ⟨b72, 0, none⟩) 3 3, .int .i64 6]) (by kernel_rfl) ?_
  refine wpl_ints rfl 22 3 3 _ rfl [8, 7, 7] rfl rfl ⟨_, Tryd_zint _⟩ rfl (by decide) (by decide) (by kernel_rfl) ?_
  intro b73 w73 hb73 hw73
  refine wpl_put rfl (.agg #[.string ⟨#[100, 97, 116, 101, 95, 98, 105, 110]⟩, .slice (some ⟨b73, 0, none⟩) 3 3, .int .i64 7]) (by kernel_rfl) ?_
  refine wpl_ints rfl 22 3 2 _ rfl [4, 5] rfl rfl ⟨_, Tryd_zint _⟩ rfl (by decide) (by decide) (by kernel_rfl) ?_
  intro b74 w74 hb74 hw74
  refine wpl_put rfl (.agg #[.string ⟨#[101, 120, 116, 114, 97, 99, 116]⟩, .slice (some ⟨b74, 0, none⟩) 2 2, .int .i64 3]) (by kernel_rfl) ?_
  refine wpl_ints rfl 22 3 2 _ rfl [4, 6] rfl rfl ⟨_, Tryd_zint _⟩ rfl (by decide) (by decide) (by kernel_rfl) ?_
  intro b75 w75 hb75 hw75
  refine wpl_put rfl (.agg #[.string ⟨#[101, 120, 116, 114, 97, 99, 116]⟩, .slice (some ⟨b75, 0, none⟩) 2 2, .int .i64 3]) (by kernel_rfl) ?_
  refine wpl_ints rfl 22 3 2 _ rfl [4, 7] rfl rfl ⟨_, Tryd_zint _⟩ rfl (by decide) (by decide) (by kernel_rfl) ?_
  intro b76 w76 hb76 hw76
  refine wpl_put rfl (.agg #[.string ⟨#[101, 120, 116, 114, 97, 99, 116]⟩, .slice (some ⟨b76, 0, none⟩) 2 2, .int .i64 3]) (by kernel_rfl) ?_
  refine wpl_ints rfl 22 3 2 _ rfl [4, 8] rfl rfl ⟨_, Tryd_zint _⟩ rfl (by decide) (by decide) (by kernel_rfl) ?_
  intro b77 w77 hb77 hw77
  refine wpl_put rfl (.agg #[.string ⟨#[101, 120, 116, 114, 97, 99, 116]⟩, .slice (some ⟨b77, 0, none⟩) 2 2, .int .i64 3]) (by kernel_rfl) ?_
  refine wpl_ints rfl 22 3 2 _ rfl [6, 6] rfl rfl ⟨_, Tryd_zint _⟩ rfl (by decide) (by decide) (by kernel_rfl) ?_
  intro b78 w78 hb78 hw78
  refine wpl_put rfl (.agg #[.string ⟨#[97, 103, 101]⟩, .slice (some ⟨b78, 0, none⟩) 2 2, .int .i64 8]) (by kernel_rfl) ?_
  refine wpl_ints rfl 22 3 1 _ rfl [8] rfl rfl ⟨_, Tryd_zint _⟩ rfl (by decide) (by decide) (by kernel_rfl) ?_
  intro b79 w79 hb79 hw79
  refine wpl_put rfl (.agg #[.string ⟨#[106, 117, 115, 116, 105, 102, 121]⟩, .slice (some ⟨b79, 0, none⟩) 1 1, .int .i64 8]) (by kernel_rfl) ?_
  refine wpl_ints rfl 22 3 3 _ rfl [2, 2, 2] rfl rfl ⟨_, Tryd_zint _⟩ rfl (by decide) (by decide) (by kernel_rfl) ?_
  intro b80 w80 hb80 hw80
  refine wpl_put rfl (.agg #[.string ⟨#[109, 97, 107, 101, 95, 100, 97, 116, 101]⟩, .slice (some ⟨b80, 0, none⟩) 3 3, .int .i64 5]) (by kernel_rfl) ?_
  refine wpl_ints rfl 22 3 1 _ rfl [5] rfl rfl ⟨_, Tryd_zint _⟩ rfl (by decide) (by decide) (by kernel_rfl) ?_
  intro b81 w81 hb81 hw81
  refine wpl_put rfl (.agg #[.string ⟨#[105, 115, 102, 105, 110, 105, 116, 101]⟩, .slice (some ⟨b81, 0, none⟩) 1 1, .int .i64 1]) (by kernel_rfl) ?_
  refine wpl_ints rfl 22 3 1 _ rfl [6] rfl rfl ⟨_, Tryd_zint _⟩ rfl (by decide) (by decide) (by kernel_rfl) ?_
  intro b82 w82 hb82 hw82
  refine wpl_put rfl (.agg #[.string ⟨#[105, 115, 102, 105, 110, 105, 116, 101]⟩, .slice (some ⟨b82, 0, none⟩) 1 1, .int .i64 1]) (by kernel_rfl) ?_
  refine wpl_ints rfl 22 3 1 _ rfl [7] rfl rfl ⟨_, Tryd_zint _⟩ rfl (by decide) (by decide) (by kernel_rfl) ?_
  intro b83 w83 hb83 hw83
  refine wpl_put rfl (.agg #[.string ⟨#[105, 115, 102, 105, 110, 105, 116, 101]⟩, .slice (some ⟨b83, 0, none⟩) 1 1, .int .i64 1]) (by kernel_rfl) ?_
  refine wpl_ints rfl 22 3 1 _ rfl [8] rfl rfl ⟨_, Tryd_zint _⟩ rfl (by decide) (by decide) (by kernel_rfl) ?_
  intro b84 w84 hb84 hw84
  refine wpl_put rfl (.agg #[.string ⟨#[105, 115, 102, 105, 110, 105, 116, 101]⟩, .slice (some ⟨b84, 0, none⟩) 1 1, .int .i64 1]) (by kernel_rfl) ?_
  refine wpl_ints rfl 22 3 4 _ rfl [6, 6, 6, 6] rfl rfl ⟨_, Tryd_zint _⟩ rfl (by decide) (by decide) (by kernel_rfl) ?_
  intro b85 w85 hb85 hw85
  refine wpl_put rfl (.agg #[.string ⟨#[111, 118, 101, 114, 108, 97, 112, 115]⟩, .slice (some ⟨b85, 0, none⟩) 4 4, .int .i64 1]) (by kernel_rfl) ?_
  refine wpl_ints rfl 22 3 4 _ rfl [7, 7, 7, 7] rfl rfl ⟨_, Tryd_zint _⟩ rfl (by decide) (by decide) (by kernel_rfl) ?_
  intro b86 w86 hb86 hw86
  refine wpl_put rfl (.agg #[.string ⟨#[111, 118, 101, 114, 108, 97, 112, 115]⟩, .slice (some ⟨b86, 0, none⟩) 4 4, .int .i64 1]) (by kernel_rfl) ?_
  refine wpl_ints rfl 22 3 3 _ rfl [2, 2, 2] rfl rfl ⟨_, Tryd_zint _⟩ rfl (by decide) (by decide) (by kernel_rfl) ?_
  intro b87 w87 hb87 hw87
  refine wpl_put rfl (.agg #[.string ⟨#[103, 101, 110, 101, 114, 97, 116, 101, 95, 115, 101, 114, 105, 101, 115]⟩, .slice (some ⟨b87, 0, none⟩) 3 3, .int .i64 2]) (by kernel_rfl) ?_
  refine wpl_ints rfl 22 3 3 _ rfl [6, 6, 8] rfl rfl ⟨_, Tryd_zint _⟩ rfl (by decide) (by decide) (by kernel_rfl) ?_
  intro b88 w88 hb88 hw88
  refine wpl_put rfl (.agg #[.string ⟨#[103, 101, 110, 101, 114, 97, 116, 101, 95, 115, 101, 114, 105, 101, 115]⟩, .slice (some ⟨b88, 0, none⟩) 3 3, .int .i64 6]) (by kernel_rfl) ?_
  refine wpl_ints rfl 22 3 3 _ rfl [7, 7, 8] rfl rfl ⟨_, Tryd_zint _⟩ rfl (by decide) (by decide) (by kernel_rfl) ?_
  intro b89 w89 hb89 hw89
  refine wpl_put rfl (.agg #[.string ⟨#[103, 101, 110, 101, 114, 97, 116, 101, 95, 115, 101, 114, 105, 101, 115]⟩, .slice (some ⟨b89, 0, none⟩) 3 3, .int .i64 7]) (by kernel_rfl) ?_
  refine wpl_rows3 rfl 31 34 90 _ rfl [(.string ⟨#[43]⟩, .slice (some ⟨b0, 0, none⟩) 2 2, .int .i64 2), (.string ⟨#[43]⟩, .slice (some ⟨b1, 0, none⟩) 2 2, .int .i64 3), (.string ⟨#[43]⟩, .slice (some ⟨b2, 0, none⟩) 2 2, .int .i64 3), (.string ⟨#[43]⟩, .slice (some ⟨b3, 0, none⟩) 2 2, .int .i64 3), (.string ⟨#[43]⟩, .slice (some ⟨b4, 0, none⟩) 2 2, .int .i64 5), (.string ⟨#[43]⟩, .slice (some ⟨b5, 0, none⟩) 2 2, .int .i64 5), (.string ⟨#[43]⟩, .slice (some ⟨b6, 0, none⟩) 2 2, .int .i64 6), (.string ⟨#[43]⟩, .slice (some ⟨b7, 0, none⟩) 2 2, .int .i64 6), (.string ⟨#[43]⟩, .slice (some ⟨b8, 0, none⟩) 2 2, .int .i64 6), (.string ⟨#[43]⟩, .slice (some ⟨b9, 0, none⟩) 2 2, .int .i64 6), (.string ⟨#[43]⟩, .slice (some ⟨b10, 0, none⟩) 2 2, .int .i64 7), (.string ⟨#[43]⟩, .slice (some ⟨b11, 0, none⟩) 2 2, .int .i64 7), (.string ⟨#[43]⟩, .slice (some ⟨b12, 0, none⟩) 2 2, .int .i64 8), (.string ⟨#[45]⟩, .slice (some ⟨b13, 0, none⟩) 2 2, .int .i64 2), (.string ⟨#[45]⟩, .slice (some ⟨b14, 0, none⟩) 2 2, .int .i64 3), (.string ⟨#[45]⟩, .slice (some ⟨b15, 0, none⟩) 2 2, .int .i64 3), (.string ⟨#[45]⟩, .slice (some ⟨b16, 0, none⟩) 2 2, .int .i64 3), (.string ⟨#[45]⟩, .slice (some ⟨b17, 0, none⟩) 2 2, .int .i64 5), (.string ⟨#[45]⟩, .slice (some ⟨b18, 0, none⟩) 2 2, .int .i64 2), (.string ⟨#[45]⟩, .slice (some ⟨b19, 0, none⟩) 2 2, .int .i64 6), (.string ⟨#[45]⟩, .slice (some ⟨b20, 0, none⟩) 2 2, .int .i64 6), (.string ⟨#[45]⟩, .slice (some ⟨b21, 0, none⟩) 2 2, .int .i64 8), (.string ⟨#[45]⟩, .slice (some ⟨b22, 0, none⟩) 2 2, .int .i64 7), (.string ⟨#[45]⟩, .slice (some ⟨b23, 0, none⟩) 2 2, .int .i64 8), (.string ⟨#[45]⟩, .slice (some ⟨b24, 0, none⟩) 2 2, .int .i64 8), (.string ⟨#[42]⟩, .slice (some ⟨b25, 0, none⟩) 2 2, .int .i64 2), (.string ⟨#[42]⟩, .slice (some ⟨b26, 0, none⟩) 2 2, .int .i64 3), (.string ⟨#[42]⟩, .slice (some ⟨b27, 0, none⟩) 2 2, .int .i64 3), (.string ⟨#[42]⟩, .slice (some ⟨b28, 0, none⟩) 2 2, .int .i64 3), (.string ⟨#[42]⟩, .slice (some ⟨b29, 0, none⟩) 2 2, .int .i64 8), (.string ⟨#[42]⟩, .slice (some ⟨b30, 0, none⟩) 2 2, .int .i64 8), (.string ⟨#[47]⟩, .slice (some ⟨b31, 0, none⟩) 2 2, .int .i64 2), (.string ⟨#[37]⟩, .slice (some ⟨b32, 0, none⟩) 2 2, .int .i64 2), (.string ⟨#[97, 110, 100]⟩, .slice (some ⟨b33, 0, none⟩) 2 2, .int .i64 1), (.string ⟨#[111, 114]⟩, .slice (some ⟨b34, 0, none⟩) 2 2, .int .i64 1), (.string ⟨#[110, 111, 116]⟩, .slice (some ⟨b35, 0, none⟩) 1 1, .int .i64 1), (.string ⟨#[110, 101, 103]⟩, .slice (some ⟨b36, 0, none⟩) 1 1, .int .i64 2), (.string ⟨#[110, 101, 103]⟩, .slice (some ⟨b37, 0, none⟩) 1 1, .int .i64 3), (.string ⟨#[110, 101, 103]⟩, .slice (some ⟨b38, 0, none⟩) 1 1, .int .i64 8), (.string ⟨#[97, 116, 32, 116, 105, 109, 101, 32, 122, 111, 110, 101]⟩, .slice (some ⟨b39, 0, none⟩) 2 2, .int .i64 7), (.string ⟨#[97, 116, 32, 116, 105, 109, 101, 32, 122, 111, 110, 101]⟩, .slice (some ⟨b40, 0, none⟩) 2 2, .int .i64 6), (.string ⟨#[58, 58, 116, 101, 120, 116]⟩, .slice (some ⟨b41, 0, none⟩) 1 1, .int .i64 4), (.string ⟨#[58, 58, 116, 101, 120, 116]⟩, .slice (some ⟨b42, 0, none⟩) 1 1, .int .i64 4), (.string ⟨#[58, 58, 116, 101, 120, 116]⟩, .slice (some ⟨b43, 0, none⟩) 1 1, .int .i64 4), (.string ⟨#[58, 58, 116, 101, 120, 116]⟩, .slice (some ⟨b44, 0, none⟩) 1 1, .int .i64 4), (.string ⟨#[58, 58, 116, 101, 120, 116]⟩, .slice (some ⟨b45, 0, none⟩) 1 1, .int .i64 4), (.string ⟨#[58, 58, 116, 101, 120, 116]⟩, .slice (some ⟨b46, 0, none⟩) 1 1, .int .i64 4), (.string ⟨#[58, 58, 116, 101, 120, 116]⟩, .slice (some ⟨b47, 0, none⟩) 1 1, .int .i64 4), (.string ⟨#[58, 58, 116, 101, 120, 116]⟩, .slice (some ⟨b48, 0, none⟩) 1 1, .int .i64 4), (.string ⟨#[58, 58, 100, 97, 116, 101]⟩, .slice (some ⟨b49, 0, none⟩) 1 1, .int .i64 5), (.string ⟨#[58, 58, 100, 97, 116, 101]⟩, .slice (some ⟨b50, 0, none⟩) 1 1, .int .i64 5), (.string ⟨#[58, 58, 100, 97, 116, 101]⟩, .slice (some ⟨b51, 0, none⟩) 1 1, .int .i64 5), (.string ⟨#[58, 58, 100, 97, 116, 101]⟩, .slice (some ⟨b52, 0, none⟩) 1 1, .int .i64 5), (.string ⟨#[58, 58, 116, 105, 109, 101, 115, 116, 97, 109, 112]⟩, .slice (some ⟨b53, 0, none⟩) 1 1, .int .i64 6), (.string ⟨#[58, 58, 116, 105, 109, 101, 115, 116, 97, 109, 112]⟩, .slice (some ⟨b54, 0, none⟩) 1 1, .int .i64 6), (.string ⟨#[58, 58, 116, 105, 109, 101, 115, 116, 97, 109, 112]⟩, .slice (some ⟨b55, 0, none⟩) 1 1, .int .i64 6), (.string ⟨#[58, 58, 116, 105, 109, 101, 115, 116, 97, 109, 112]⟩, .slice (some ⟨b56, 0, none⟩) 1 1, .int .i64 6), (.string ⟨#[58, 58, 116, 105, 109, 101, 115, 116, 97, 109, 112, 116, 122]⟩, .slice (some ⟨b57, 0, none⟩) 1 1, .int .i64 7), (.string ⟨#[58, 58, 116, 105, 109, 101, 115, 116, 97, 109, 112, 116, 122]⟩, .slice (some ⟨b58, 0, none⟩) 1 1, .int .i64 7), (.string ⟨#[58, 58, 116, 105, 109, 101, 115, 116, 97, 109, 112, 116, 122]⟩, .slice (some ⟨b59, 0, none⟩) 1 1, .int .i64 7), (.string ⟨#[58, 58, 116, 105, 109, 101, 115, 116, 97, 109, 112, 116, 122]⟩, .slice (some ⟨b60, 0, none⟩) 1 1, .int .i64 7), (.string ⟨#[58, 58, 105, 110, 116, 101, 114, 118, 97, 108]⟩, .slice (some ⟨b61, 0, none⟩) 1 1, .int .i64 8), (.string ⟨#[58, 58, 105, 110, 116, 101, 114, 118, 97, 108]⟩, .slice (some ⟨b62, 0, none⟩) 1 1, .int .i64 8), (.string ⟨#[58, 58, 105, 110, 116]⟩, .slice (some ⟨b63, 0, none⟩) 1 1, .int .i64 2), (.string ⟨#[58, 58, 105, 110, 116]⟩, .slice (some ⟨b64, 0, none⟩) 1 1, .int .i64 2), (.string ⟨#[58, 58, 105, 110, 116]⟩, .slice (some ⟨b65, 0, none⟩) 1 1, .int .i64 2), (.string ⟨#[58, 58, 110, 117, 109, 101, 114, 105, 99]⟩, .slice (some ⟨b66, 0, none⟩) 1 1, .int .i64 3), (.string ⟨#[58, 58, 110, 117, 109, 101, 114, 105, 99]⟩, .slice (some ⟨b67, 0, none⟩) 1 1, .int .i64 3), (.string ⟨#[58, 58, 110, 117, 109, 101, 114, 105, 99]⟩, .slice (some ⟨b68, 0, none⟩) 1 1, .int .i64 3), (.string ⟨#[100, 97, 116, 101, 95, 116, 114, 117, 110, 99]⟩, .slice (some ⟨b69, 0, none⟩) 2 2, .int .i64 6), (.string ⟨#[100, 97, 116, 101, 95, 116, 114, 117, 110, 99]⟩, .slice (some ⟨b70, 0, none⟩) 2 2, .int .i64 7), (.string ⟨#[100, 97, 116, 101, 95, 116, 114, 117, 110, 99]⟩, .slice (some ⟨b71, 0, none⟩) 3 3, .int .i64 7), (.string ⟨#[100, 97, 116, 101, 95, 98, 105, 110]⟩, .slice (some ⟨b72, 0, none⟩) 3 3, .int .i64 6), (.string ⟨#[100, 97, 116, 101, 95, 98, 105, 110]⟩, .slice (some ⟨b73, 0, none⟩) 3 3, .int .i64 7), (.string ⟨#[101, 120, 116, 114, 97, 99, 116]⟩, .slice (some ⟨b74, 0, none⟩) 2 2, .int .i64 3), (.string ⟨#[101, 120, 116, 114, 97, 99, 116]⟩, .slice (some ⟨b75, 0, none⟩) 2 2, .int .i64 3), (.string ⟨#[101, 120, 116, 114, 97, 99, 116]⟩, .slice (some ⟨b76, 0, none⟩) 2 2, .int .i64 3), (.string ⟨#[101, 120, 116, 114, 97, 99, 116]⟩, .slice (some ⟨b77, 0, none⟩) 2 2, .int .i64 3), (.string ⟨#[97, 103, 101]⟩, .slice (some ⟨b78, 0, none⟩) 2 2, .int .i64 8), (.string ⟨#[106, 117, 115, 116, 105, 102, 121]⟩, .slice (some ⟨b79, 0, none⟩) 1 1, .int .i64 8), (.string ⟨#[109, 97, 107, 101, 95, 100, 97, 116, 101]⟩, .slice (some ⟨b80, 0, none⟩) 3 3, .int .i64 5), (.string ⟨#[105, 115, 102, 105, 110, 105, 116, 101]⟩, .slice (some ⟨b81, 0, none⟩) 1 1, .int .i64 1), (.string ⟨#[105, 115, 102, 105, 110, 105, 116, 101]⟩, .slice (some ⟨b82, 0, none⟩) 1 1, .int .i64 1), (.string ⟨#[105, 115, 102, 105, 110, 105, 116, 101]⟩, .slice (some ⟨b83, 0, none⟩) 1 1, .int .i64 1), (.string ⟨#[105, 115, 102, 105, 110, 105, 116, 101]⟩, .slice (some ⟨b84, 0, none⟩) 1 1, .int .i64 1), (.string ⟨#[111, 118, 101, 114, 108, 97, 112, 115]⟩, .slice (some ⟨b85, 0, none⟩) 4 4, .int .i64 1), (.string ⟨#[111, 118, 101, 114, 108, 97, 112, 115]⟩, .slice (some ⟨b86, 0, none⟩) 4 4, .int .i64 1), (.string ⟨#[103, 101, 110, 101, 114, 97, 116, 101, 95, 115, 101, 114, 105, 101, 115]⟩, .slice (some ⟨b87, 0, none⟩) 3 3, .int .i64 2), (.string ⟨#[103, 101, 110, 101, 114, 97, 116, 101, 95, 115, 101, 114, 105, 101, 115]⟩, .slice (some ⟨b88, 0, none⟩) 3 3, .int .i64 6), (.string ⟨#[103, 101, 110, 101, 114, 97, 116, 101, 95, 115, 101, 114, 105, 101, 115]⟩, .slice (some ⟨b89, 0, none⟩) 3 3, .int .i64 7)] (by kernel_rfl) (by kernel_rfl) ⟨_, Tryd_zrow _⟩ rfl (by decide) (by decide) (by kernel_rfl) ?_
  refine wpl_put rfl (.slice (some ⟨w89.heap.size, 0, none⟩) 90 90) (by kernel_rfl) ?_
  rename_i K0 hK0
  refine wpList_nil (hK0 _ _ (wp_ret ?_))
  refine bodyPost_ret (v := .slice (some ⟨w89.heap.size, 0, none⟩) 90 90) (by kernel_rfl) (by kernel_rfl) ?_
  clear hK0 K0
  have hc : Ch w rtb [b0, b1, b2, b3, b4, b5, b6, b7, b8, b9, b10, b11, b12, b13, b14, b15, b16, b17, b18, b19, b20, b21, b22, b23, b24, b25, b26, b27, b28, b29, b30, b31, b32, b33, b34, b35, b36, b37, b38, b39, b40, b41, b42, b43, b44, b45, b46, b47, b48, b49, b50, b51, b52, b53, b54, b55, b56, b57, b58, b59, b60, b61, b62, b63, b64, b65, b66, b67, b68, b69, b70, b71, b72, b73, b74, b75, b76, b77, b78, b79, b80, b81, b82, b83, b84, b85, b86, b87, b88, b89] w89 := ⟨hb0, w0, hw0, hb1, w1, hw1, hb2, w2, hw2, hb3, w3, hw3, hb4, w4, hw4, hb5, w5, hw5, hb6, w6, hw6, hb7, w7, hw7, hb8, w8, hw8, hb9, w9, hw9, hb10, w10, hw10, hb11, w11, hw11, hb12, w12, hw12, hb13, w13, hw13, hb14, w14, hw14, hb15, w15, hw15, hb16, w16, hw16, hb17, w17, hw17, hb18, w18, hw18, hb19, w19, hw19, hb20, w20, hw20, hb21, w21, hw21, hb22, w22, hw22, hb23, w23, hw23, hb24, w24, hw24, hb25, w25, hw25, hb26, w26, hw26, hb27, w27, hw27, hb28, w28, hw28, hb29, w29, hw29, hb30, w30, hw30, hb31, w31, hw31, hb32, w32, hw32, hb33, w33, hw33, hb34, w34, hw34, hb35, w35, hw35, hb36, w36, hw36, hb37, w37, hw37, hb38, w38, hw38, hb39, w39, hw39, hb40, w40, hw40, hb41, w41, hw41, hb42, w42, hw42, hb43, w43, hw43, hb44, w44, hw44, hb45, w45, hw45, hb46, w46, hw46, hb47, w47, hw47, hb48, w48, hw48, hb49, w49, hw49, hb50, w50, hw50, hb51, w51, hw51, hb52, w52, hw52, hb53, w53, hw53, hb54, w54, hw54, hb55, w55, hw55, hb56, w56, hw56, hb57, w57, hw57, hb58, w58, hw58, hb59, w59, hw59, hb60, w60, hw60, hb61, w61, hw61, hb62, w62, hw62, hb63, w63, hw63, hb64, w64, hw64, hb65, w65, hw65, hb66, w66, hw66, hb67, w67, hw67, hb68, w68, hw68, hb69, w69, hw69, hb70, w70, hw70, hb71, w71, hw71, hb72, w72, hw72, hb73, w73, hw73, hb74, w74, hw74, hb75, w75, hw75, hb76, w76, hw76, hb77, w77, hw77, hb78, w78, hw78, hb79, w79, hw79, hb80, w80, hw80, hb81, w81, hw81, hb82, w82, hw82, hb83, w83, hw83, hb84, w84, hw84, hb85, w85, hw85, hb86, w86, hw86, hb87, w87, hw87, hb88, w88, hw88, hb89, w89, hw89, rfl⟩
  clear hb0 hw0 hb1 hw1 hb2 hw2 hb3 hw3 hb4 hw4 hb5 hw5 hb6 hw6 hb7 hw7 hb8 hw8 hb9 hw9 hb10 hw10 hb11 hw11 hb12 hw12 hb13 hw13 hb14 hw14 hb15 hw15 hb16 hw16 hb17 hw17 hb18 hw18 hb19 hw19 hb20 hw20 hb21 hw21 hb22 hw22 hb23 hw23 hb24 hw24 hb25 hw25 hb26 hw26 hb27 hw27 hb28 hw28 hb29 hw29 hb30 hw30 hb31 hw31 hb32 hw32 hb33 hw33 hb34 hw34 hb35 hw35 hb36 hw36 hb37 hw37 hb38 hw38 hb39 hw39 hb40 hw40 hb41 hw41 hb42 hw42 hb43 hw43 hb44 hw44 hb45 hw45 hb46 hw46 hb47 hw47 hb48 hw48 hb49 hw49 hb50 hw50 hb51 hw51 hb52 hw52 hb53 hw53 hb54 hw54 hb55 hw55 hb56 hw56 hb57 hw57 hb58 hw58 hb59 hw59 hb60 hw60 hb61 hw61 hb62 hw62 hb63 hw63 hb64 hw64 hb65 hw65 hb66 hw66 hb67 hw67 hb68 hw68 hb69 hw69 hb70 hw70 hb71 hw71 hb72 hw72 hb73 hw73 hb74 hw74 hb75 hw75 hb76 hw76 hb77 hw77 hb78 hw78 hb79 hw79 hb80 hw80 hb81 hw81 hb82 hw82 hb83 hw83 hb84 hw84 hb85 hw85 hb86 hw86 hb87 hw87 hb88 hw88 hb89 hw89
  obtain ⟨e1, e2⟩ := ch_is _ _ _ _ hc
  refine ⟨by rw [e1], ?_⟩
  rw [e2, e1]
  congr 3


theorem rtR_flat : ∀ (l : List (ByteArray × List Int × Int)) (w : World) (s i : Nat), w.heap.size = s + i → fl3 (rtR w l) = rtC s l i
  | [], w, s, i, h => rfl
  | x :: l, w, s, i, h => by
    have q := rtR_flat l (w.alloc (.cells (x.2.1.map (fun k => Value.int .i64 k)).toArray 3)) s (i + 1) (by simp [h]; omega)
    simp only [rtR, fl3, rtC, q, h]

/-- the reference's table in memory, as KindOne wants it. -/
theorem rt_any (w : World) :
    Calls Tryd.prog 15 #[] w fun e w' => e = .returned (.slice (some ⟨w.heap.size + 90, 0, none⟩) 90 90) ∧ TB w w' := by
  refine (rtable_any w).mono ?_
  rintro e W ⟨rfl, rfl⟩
  have q := (rtW_low rtb w).2
  rw [rtb_len] at q
  rw [rtR_flat rtb w w.heap.size 0 rfl, q]
  exact ⟨rfl, TB.new w _⟩

end Go.Proofs.YtcmefhnfdcngfaaDoor
