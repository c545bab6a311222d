/- Stretches of time: the iterators' makers, a stretch's side. -/
import Derived.Test.YtpdmndlpgjjopaaGreatDoorZrZq
import Derived.Test.YtpdmndlpgjjopaaGreatDoorZnUq
import Derived.Test.YtpdmndlpgjjopaaGreatDoorZnTq
import Derived.Deep.Cut
namespace Go.Proofs.YtpdmndlpgjjopaaGreatDoor
open Go.RowKit Sr
set_option linter.unusedVariables false

set_option maxRecDepth 100000 in
set_option maxHeartbeats 8000000 in
theorem changes_mk (T : List Value) (hT : T.length = 25) (a b : Int) (w : World) :
    Calls Tryz.prog 129 #[.agg T.toArray, .int .i64 a, .int .i64 b] w fun e w' => e = .returned (.func (.func 134) #[] #[.pointer (some ⟨w.heap.size, 0, none⟩), .pointer (some ⟨w.heap.size + 1, 0, none⟩), .pointer (some ⟨w.heap.size + 2, 0, none⟩)]) ∧ w' = ((w.alloc (.cells T.toArray 46)).alloc (.cells #[.int .i64 a] 2)).alloc (.cells #[.int .i64 b] 2) := by
  have hmf : ∀ (fn : Fn) (first cap : Array Value) (w : World), (Instr.makeFunc fn first cap).run Tryz.prog w = .ok (.func fn first cap) w := fun _ _ _ _ => rfl
  go_enter Tryz.func129, Tryz.ntmps129
  generalize hUA : T.toArray = UA at *
  go_wp2
  go_ret
  exact ⟨rfl, rfl⟩

set_option maxRecDepth 100000 in
set_option maxHeartbeats 8000000 in
theorem strs_mk (T : List Value) (hT : T.length = 25) (a b : Int) (w : World) :
    Calls Tryz.prog 118 #[.agg T.toArray, .int .i64 a, .int .i64 b] w fun e w' => e = .returned (.func (.func 128) #[] #[.pointer (some ⟨w.heap.size + 1, 0, none⟩), .pointer (some ⟨w.heap.size, 0, none⟩), .pointer (some ⟨w.heap.size + 2, 0, none⟩)]) ∧ w' = ((w.alloc (.cells T.toArray 46)).alloc (.cells #[.int .i64 a] 2)).alloc (.cells #[.int .i64 b] 2) := by
  have hmf : ∀ (fn : Fn) (first cap : Array Value) (w : World), (Instr.makeFunc fn first cap).run Tryz.prog w = .ok (.func fn first cap) w := fun _ _ _ _ => rfl
  go_enter Tryz.func118, Tryz.ntmps118
  generalize hUA : T.toArray = UA at *
  go_wp2
  go_ret
  exact ⟨rfl, rfl⟩

/-- which side: 0 less, 1 says it, 2 more. -/
def sdV (x : Int) (s : Zm.St) : Int := if Zm.less x s then 0 else if Zm.says x s then 1 else 2
def stC (s : Zm.St) : List Value := [.int .i64 s.a, .int .i64 s.b, .int .i64 s.o]
set_option maxRecDepth 100000 in
set_option maxHeartbeats 8000000 in
theorem side_any (x : Int) (s : Zm.St) (h1 : -9223372036854775808 ≤ x - s.o) (h2 : x - s.o ≤ 9223372036854775807) (w : World) :
    Calls Tryz.prog 119 #[.agg #[.int .i64 s.a, .int .i64 s.b, .int .i64 s.o], .int .i64 x] w fun e w' => e = .returned (.int .i64 (sdV x s)) ∧ Below w.heap.size w w' := by
  have HB : Hid (Below w.heap.size w (w.alloc (.cells #[.int .i64 s.a, .int .i64 s.b, .int .i64 s.o] 174))) := (Below.refl _ _).alloc (Nat.le_refl _) _
  obtain ⟨a, b, o⟩ := s
  simp only [] at h1 h2 HB ⊢
  by_cases k1 : b ≤ x - o
  · rw [show sdV x ⟨a, b, o⟩ = 0 from if_pos k1]
    go_enter Tryz.func119, Tryz.ntmps119
    go_wp2
    go_ret
    exact ⟨rfl, HB.out⟩
  · by_cases k2 : a ≤ x - o
    · rw [show sdV x ⟨a, b, o⟩ = 1 from (if_neg k1).trans (if_pos ⟨k2, by show x - o < b; omega⟩)]
      go_enter Tryz.func119, Tryz.ntmps119
      go_wp2
      go_ret
      exact ⟨rfl, HB.out⟩
    · rw [show sdV x ⟨a, b, o⟩ = 2 from (if_neg k1).trans (if_neg (fun q => k2 q.1))]
      go_enter Tryz.func119, Tryz.ntmps119
      go_wp2
      go_ret
      exact ⟨rfl, HB.out⟩

end Go.Proofs.YtpdmndlpgjjopaaGreatDoor
