/- Contracts of the reference's Text and Long. -/
import Derived.Test.YtmohhbgmbicklaaDoorDigCq
namespace Go.Proofs.YtmohhbgmbicklaaDoor.Clk
open Go.RowKit
set_option linter.unusedVariables false

set_option maxRecDepth 100000 in
set_option maxHeartbeats 2000000 in
theorem elong_core (n u v s r a b c d : Int) (G A B C F : ByteArray) (a1 : A.size ≤ 21) (b1 : B.size ≤ 21) (c1 : C.size ≤ 21) (f1 : F.size ≤ 7)
    (hg : (n < 0 ∧ IntKind.u64.wrap (-(IntKind.u64.wrap n)) = u ∧ G = ⟨#[45]⟩) ∨ (0 ≤ n ∧ n = u ∧ G = ⟨#[]⟩)) (u1 : 0 ≤ u) (u2 : u ≤ 9223372036854775808) (es : u.tdiv 1000000 = s) (s1 : 0 ≤ s) (s2 : s ≤ 9223372036854) (er : u.tmod 1000000 = r) (r1 : 0 ≤ r) (r2 : r ≤ 999999)
    (ea : s.tdiv 3600 = a) (eb : s.tdiv 60 = b) (ec : b.tmod 60 = c) (ed : s.tmod 60 = d) (k1 : 0 ≤ a) (k2 : a ≤ 9223372036854) (k3 : 0 ≤ b) (k4 : b ≤ 9223372036854)
    (H1 : Hid (∀ w : World, Calls Tryd.prog 36 #[.int .i64 a] w fun e w' => e = .returned (.string A) ∧ Below w.heap.size w w'))
    (H2 : Hid (∀ w : World, Calls Tryd.prog 36 #[.int .i64 c] w fun e w' => e = .returned (.string B) ∧ Below w.heap.size w w'))
    (H3 : Hid (∀ w : World, Calls Tryd.prog 36 #[.int .i64 d] w fun e w' => e = .returned (.string C) ∧ Below w.heap.size w w'))
    (H4 : Hid (∀ w : World, Calls Tryd.prog 37 #[.int .i64 r] w fun e w' => e = .returned (.string F) ∧ Below w.heap.size w w')) (w : World) :
    Calls Tryd.prog 40 #[.int .i64 n] w fun e w' => e = .returned (.string (G ++ A ++ ⟨#[58]⟩ ++ B ++ ⟨#[58]⟩ ++ C ++ F)) ∧ Below w.heap.size w w' := by
  rcases hg with ⟨g1, g2, rfl⟩ | ⟨g1, g2, rfl⟩
  · have g0 : n < 0 := g1
    go_enter Tryd.func40, Tryd.ntmps40
    go_wp2_with fail
    refine (H1.out _).mono ?_
    rintro e w1 ⟨rfl, b1'⟩
    go_wp2_with fail
    refine (H2.out _).mono ?_
    rintro e w2 ⟨rfl, b2⟩
    have B2 := b1'.trans (b2.mono b1'.size)
    clear b1' b2
    go_wp2_with fail
    refine (H3.out _).mono ?_
    rintro e w3 ⟨rfl, b3⟩
    have B3 := B2.trans (b3.mono B2.size)
    clear b3 B2
    go_wp2_with fail
    refine (H4.out _).mono ?_
    rintro e w4 ⟨rfl, b4⟩
    have B4 := B3.trans (b4.mono B3.size)
    clear b4 B3
    go_wp2
    go_ret
    exact ⟨rfl, B4⟩
  · have g0 : ¬ n < 0 := by omega
    subst g2
    go_enter Tryd.func40, Tryd.ntmps40
    go_wp2_with fail
    refine (H1.out _).mono ?_
    rintro e w1 ⟨rfl, b1'⟩
    go_wp2_with fail
    refine (H2.out _).mono ?_
    rintro e w2 ⟨rfl, b2⟩
    have B2 := b1'.trans (b2.mono b1'.size)
    clear b1' b2
    go_wp2_with fail
    refine (H3.out _).mono ?_
    rintro e w3 ⟨rfl, b3⟩
    have B3 := B2.trans (b3.mono B2.size)
    clear b3 B2
    go_wp2_with fail
    refine (H4.out _).mono ?_
    rintro e w4 ⟨rfl, b4⟩
    have B4 := B3.trans (b4.mono B3.size)
    clear b4 B3
    go_wp2
    go_ret
    exact ⟨rfl, B4⟩

end Go.Proofs.YtmohhbgmbicklaaDoor.Clk
