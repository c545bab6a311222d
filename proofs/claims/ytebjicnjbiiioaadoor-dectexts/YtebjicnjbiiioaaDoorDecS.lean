/- Contract of dec.Read, way by way: what is wrong, and what it is. -/
import Derived.Test.YtebjicnjbiiioaaDoorDecR
namespace Go.Proofs.YtebjicnjbiiioaaDoor
open Go.RowKit
set_option linter.unusedVariables false

set_option maxRecDepth 100000 in
set_option maxHeartbeats 1000000 in
theorem read_neg_b1 (s A B : ByteArray) (f : Bool) (dB : Bool) (h1 : 1 ≤ s.size) 
    (P1 : Hid (∀ w : World, Calls Tryd.prog 29 #[.string s, .string ⟨#[45]⟩] w fun e w' => e = .returned (.bool true) ∧ w' = w))
    (HC : Hid (∀ w : World, Calls Tryd.prog 30 #[.string (s.extract 1 s.size), .string ⟨#[46]⟩] w fun e w' => e = .returned (.tuple #[.string A, .string B, .bool f]) ∧ Below w.heap.size w w'))
    (DA : Hid (∀ w : World, Calls Tryd.prog 31 #[.string A] w fun e w' => e = .returned (.bool false) ∧ Below w.heap.size w w'))
    (DB : Hid (∀ w : World, Calls Tryd.prog 31 #[.string B] w fun e w' => e = .returned (.bool dB) ∧ Below w.heap.size w w'))
    (hsz : A.size + B.size ≤ 9223372036854775807) (w : World) :
    Calls Tryd.prog 11 #[.string s] w fun e w' => e = .returned (.tuple #[d0, .int .i64 13]) ∧ Below w.heap.size w w' := by
  have F := Box.new w 0 0
  have HB : Hid (Below w.heap.size w (w.alloc (dbox 0 0))) := (Below.refl _ _).alloc (Nat.le_refl _) _
  have h1' : (1 : Int) ≤ (s.size : Int) := by omega
  go_enter Tryd.func11, Tryd.ntmps11
  go_wp2_with fail
  refine (P1.out _).mono ?_
  rintro e w0 ⟨rfl, rfl⟩
  go_wp2_with fail
  refine (HC.out _).mono ?_
  rintro e w1 ⟨rfl, hb⟩
  have F1 := F.below hb F.1
  have HB1 : Hid (Below w.heap.size w w1) := HB.out.trans (hb.mono HB.out.size)
  clear F HB hb
  go_wp2_with fail
  refine (DA.out _).mono ?_
  rintro e w2 ⟨rfl, hb⟩
  have F2 := F1.below hb F1.1
  have HB2 : Hid (Below w.heap.size w w2) := HB1.out.trans (hb.mono HB1.out.size)
  clear F1 HB1 hb
  obtain ⟨z1, z2, z3, z4, z5⟩ := F2
  go_wp2_with fail
  exact bodyPost_ret (v := .tuple #[d0, .int .i64 13]) (by simp [results, Tryd.results11, go_sem, z2, z3]) rfl ⟨rfl, (HB2.out.setCell (by simp) _).setCell (by simp) _⟩

set_option maxRecDepth 100000 in
set_option maxHeartbeats 1000000 in
theorem read_neg_b2 (s A B : ByteArray) (h1 : 1 ≤ s.size) 
    (P1 : Hid (∀ w : World, Calls Tryd.prog 29 #[.string s, .string ⟨#[45]⟩] w fun e w' => e = .returned (.bool true) ∧ w' = w))
    (HC : Hid (∀ w : World, Calls Tryd.prog 30 #[.string (s.extract 1 s.size), .string ⟨#[46]⟩] w fun e w' => e = .returned (.tuple #[.string A, .string B, .bool true]) ∧ Below w.heap.size w w'))
    (DA : Hid (∀ w : World, Calls Tryd.prog 31 #[.string A] w fun e w' => e = .returned (.bool true) ∧ Below w.heap.size w w'))
    (DB : Hid (∀ w : World, Calls Tryd.prog 31 #[.string B] w fun e w' => e = .returned (.bool false) ∧ Below w.heap.size w w'))
    (hsz : A.size + B.size ≤ 9223372036854775807) (w : World) :
    Calls Tryd.prog 11 #[.string s] w fun e w' => e = .returned (.tuple #[d0, .int .i64 13]) ∧ Below w.heap.size w w' := by
  have F := Box.new w 0 0
  have HB : Hid (Below w.heap.size w (w.alloc (dbox 0 0))) := (Below.refl _ _).alloc (Nat.le_refl _) _
  have h1' : (1 : Int) ≤ (s.size : Int) := by omega
  go_enter Tryd.func11, Tryd.ntmps11
  go_wp2_with fail
  refine (P1.out _).mono ?_
  rintro e w0 ⟨rfl, rfl⟩
  go_wp2_with fail
  refine (HC.out _).mono ?_
  rintro e w1 ⟨rfl, hb⟩
  have F1 := F.below hb F.1
  have HB1 : Hid (Below w.heap.size w w1) := HB.out.trans (hb.mono HB.out.size)
  clear F HB hb
  go_wp2_with fail
  refine (DA.out _).mono ?_
  rintro e w2 ⟨rfl, hb⟩
  have F2 := F1.below hb F1.1
  have HB2 : Hid (Below w.heap.size w w2) := HB1.out.trans (hb.mono HB1.out.size)
  clear F1 HB1 hb
  go_wp2_with fail
  refine (DB.out _).mono ?_
  rintro e w3 ⟨rfl, hb⟩
  have F3 := F2.below hb F2.1
  have HB3 : Hid (Below w.heap.size w w3) := HB2.out.trans (hb.mono HB2.out.size)
  clear F2 HB2 hb
  obtain ⟨z1, z2, z3, z4, z5⟩ := F3
  go_wp2_with fail
  exact bodyPost_ret (v := .tuple #[d0, .int .i64 13]) (by simp [results, Tryd.results11, go_sem, z2, z3]) rfl ⟨rfl, (HB3.out.setCell (by simp) _).setCell (by simp) _⟩

set_option maxRecDepth 100000 in
set_option maxHeartbeats 1000000 in
theorem read_neg_b3 (s A B : ByteArray) (h1 : 1 ≤ s.size) (h9 : 9 < (B.size : Int))
    (P1 : Hid (∀ w : World, Calls Tryd.prog 29 #[.string s, .string ⟨#[45]⟩] w fun e w' => e = .returned (.bool true) ∧ w' = w))
    (HC : Hid (∀ w : World, Calls Tryd.prog 30 #[.string (s.extract 1 s.size), .string ⟨#[46]⟩] w fun e w' => e = .returned (.tuple #[.string A, .string B, .bool true]) ∧ Below w.heap.size w w'))
    (DA : Hid (∀ w : World, Calls Tryd.prog 31 #[.string A] w fun e w' => e = .returned (.bool true) ∧ Below w.heap.size w w'))
    (DB : Hid (∀ w : World, Calls Tryd.prog 31 #[.string B] w fun e w' => e = .returned (.bool true) ∧ Below w.heap.size w w'))
    (hsz : A.size + B.size ≤ 9223372036854775807) (w : World) :
    Calls Tryd.prog 11 #[.string s] w fun e w' => e = .returned (.tuple #[d0, .int .i64 13]) ∧ Below w.heap.size w w' := by
  have F := Box.new w 0 0
  have HB : Hid (Below w.heap.size w (w.alloc (dbox 0 0))) := (Below.refl _ _).alloc (Nat.le_refl _) _
  have h1' : (1 : Int) ≤ (s.size : Int) := by omega
  go_enter Tryd.func11, Tryd.ntmps11
  go_wp2_with fail
  refine (P1.out _).mono ?_
  rintro e w0 ⟨rfl, rfl⟩
  go_wp2_with fail
  refine (HC.out _).mono ?_
  rintro e w1 ⟨rfl, hb⟩
  have F1 := F.below hb F.1
  have HB1 : Hid (Below w.heap.size w w1) := HB.out.trans (hb.mono HB.out.size)
  clear F HB hb
  go_wp2_with fail
  refine (DA.out _).mono ?_
  rintro e w2 ⟨rfl, hb⟩
  have F2 := F1.below hb F1.1
  have HB2 : Hid (Below w.heap.size w w2) := HB1.out.trans (hb.mono HB1.out.size)
  clear F1 HB1 hb
  go_wp2_with fail
  refine (DB.out _).mono ?_
  rintro e w3 ⟨rfl, hb⟩
  have F3 := F2.below hb F2.1
  have HB3 : Hid (Below w.heap.size w w3) := HB2.out.trans (hb.mono HB2.out.size)
  clear F2 HB2 hb
  obtain ⟨z1, z2, z3, z4, z5⟩ := F3
  go_wp2_with fail
  exact bodyPost_ret (v := .tuple #[d0, .int .i64 13]) (by simp [results, Tryd.results11, go_sem, z2, z3]) rfl ⟨rfl, (HB3.out.setCell (by simp) _).setCell (by simp) _⟩

set_option maxRecDepth 100000 in
set_option maxHeartbeats 1000000 in
theorem read_neg_g1 (s A B : ByteArray) (v x : Int) (h1 : 1 ≤ s.size) (h9 : ¬ 9 < (B.size : Int))
    (P1 : Hid (∀ w : World, Calls Tryd.prog 29 #[.string s, .string ⟨#[45]⟩] w fun e w' => e = .returned (.bool true) ∧ w' = w))
    (HC : Hid (∀ w : World, Calls Tryd.prog 30 #[.string (s.extract 1 s.size), .string ⟨#[46]⟩] w fun e w' => e = .returned (.tuple #[.string A, .string B, .bool true]) ∧ Below w.heap.size w w'))
    (DA : Hid (∀ w : World, Calls Tryd.prog 31 #[.string A] w fun e w' => e = .returned (.bool true) ∧ Below w.heap.size w w'))
    (DB : Hid (∀ w : World, Calls Tryd.prog 31 #[.string B] w fun e w' => e = .returned (.bool true) ∧ Below w.heap.size w w'))
    (NU : Hid (∀ w : World, Calls Tryd.prog 32 #[.string (A ++ B), .bool true] w fun e w' => e = .returned (.tuple #[.int .i64 v, .int .i64 x]) ∧ Below w.heap.size w w'))
    (hsz : A.size + B.size ≤ 9223372036854775807) (w : World) :
    Calls Tryd.prog 11 #[.string s] w fun e w' => e = .returned (.tuple #[.agg #[.int .i64 (ofN v x), .int .i64 (ofS (B.size : Int) x)], .int .i64 x]) ∧ Below w.heap.size w w' := by
  have HO : Hid (∀ w : World, Calls Tryd.prog 33 #[.int .i64 v, .int .i64 (B.size : Int), .int .i64 x] w fun e w' => e = .returned (.tuple #[.agg #[.int .i64 (ofN v x), .int .i64 (ofS (B.size : Int) x)], .int .i64 x]) ∧ Below w.heap.size w w') := of_any v B.size x
  have F := Box.new w 0 0
  have HB : Hid (Below w.heap.size w (w.alloc (dbox 0 0))) := (Below.refl _ _).alloc (Nat.le_refl _) _
  have h1' : (1 : Int) ≤ (s.size : Int) := by omega
  go_enter Tryd.func11, Tryd.ntmps11
  go_wp2_with fail
  refine (P1.out _).mono ?_
  rintro e w0 ⟨rfl, rfl⟩
  go_wp2_with fail
  refine (HC.out _).mono ?_
  rintro e w1 ⟨rfl, hb⟩
  have F1 := F.below hb F.1
  have HB1 : Hid (Below w.heap.size w w1) := HB.out.trans (hb.mono HB.out.size)
  clear F HB hb
  go_wp2_with fail
  refine (DA.out _).mono ?_
  rintro e w2 ⟨rfl, hb⟩
  have F2 := F1.below hb F1.1
  have HB2 : Hid (Below w.heap.size w w2) := HB1.out.trans (hb.mono HB1.out.size)
  clear F1 HB1 hb
  go_wp2_with fail
  refine (DB.out _).mono ?_
  rintro e w3 ⟨rfl, hb⟩
  have F3 := F2.below hb F2.1
  have HB3 : Hid (Below w.heap.size w w3) := HB2.out.trans (hb.mono HB2.out.size)
  clear F2 HB2 hb
  go_wp2_with fail
  refine (NU.out _).mono ?_
  rintro e w4 ⟨rfl, hb⟩
  have F4 := F3.below hb F3.1
  have HB4 : Hid (Below w.heap.size w w4) := HB3.out.trans (hb.mono HB3.out.size)
  clear F3 HB3 hb
  go_wp2_with fail
  refine (HO.out _).mono ?_
  rintro e w5 ⟨rfl, hb⟩
  obtain ⟨z1, z2, z3, z4, z5⟩ := F4.below hb F4.1
  have HB5 : Hid (Below w.heap.size w w5) := HB4.out.trans (hb.mono HB4.out.size)
  clear F4 HB4 hb
  go_wp2_with fail
  exact bodyPost_ret (v := .tuple #[.agg #[.int .i64 (ofN v x), .int .i64 (ofS (B.size : Int) x)], .int .i64 x]) (by simp [results, Tryd.results11, go_sem, z2, z3]) rfl ⟨rfl, (HB5.out.setCell (by simp) _).setCell (by simp) _⟩

set_option maxRecDepth 100000 in
set_option maxHeartbeats 1000000 in
theorem read_neg_g2 (s A B : ByteArray) (dB : Bool) (v x : Int) (h1 : 1 ≤ s.size) 
    (P1 : Hid (∀ w : World, Calls Tryd.prog 29 #[.string s, .string ⟨#[45]⟩] w fun e w' => e = .returned (.bool true) ∧ w' = w))
    (HC : Hid (∀ w : World, Calls Tryd.prog 30 #[.string (s.extract 1 s.size), .string ⟨#[46]⟩] w fun e w' => e = .returned (.tuple #[.string A, .string B, .bool false]) ∧ Below w.heap.size w w'))
    (DA : Hid (∀ w : World, Calls Tryd.prog 31 #[.string A] w fun e w' => e = .returned (.bool true) ∧ Below w.heap.size w w'))
    (DB : Hid (∀ w : World, Calls Tryd.prog 31 #[.string B] w fun e w' => e = .returned (.bool dB) ∧ Below w.heap.size w w'))
    (NU : Hid (∀ w : World, Calls Tryd.prog 32 #[.string (A ++ B), .bool true] w fun e w' => e = .returned (.tuple #[.int .i64 v, .int .i64 x]) ∧ Below w.heap.size w w'))
    (hsz : A.size + B.size ≤ 9223372036854775807) (w : World) :
    Calls Tryd.prog 11 #[.string s] w fun e w' => e = .returned (.tuple #[.agg #[.int .i64 (ofN v x), .int .i64 (ofS (B.size : Int) x)], .int .i64 x]) ∧ Below w.heap.size w w' := by
  have HO : Hid (∀ w : World, Calls Tryd.prog 33 #[.int .i64 v, .int .i64 (B.size : Int), .int .i64 x] w fun e w' => e = .returned (.tuple #[.agg #[.int .i64 (ofN v x), .int .i64 (ofS (B.size : Int) x)], .int .i64 x]) ∧ Below w.heap.size w w') := of_any v B.size x
  have F := Box.new w 0 0
  have HB : Hid (Below w.heap.size w (w.alloc (dbox 0 0))) := (Below.refl _ _).alloc (Nat.le_refl _) _
  have h1' : (1 : Int) ≤ (s.size : Int) := by omega
  go_enter Tryd.func11, Tryd.ntmps11
  go_wp2_with fail
  refine (P1.out _).mono ?_
  rintro e w0 ⟨rfl, rfl⟩
  go_wp2_with fail
  refine (HC.out _).mono ?_
  rintro e w1 ⟨rfl, hb⟩
  have F1 := F.below hb F.1
  have HB1 : Hid (Below w.heap.size w w1) := HB.out.trans (hb.mono HB.out.size)
  clear F HB hb
  go_wp2_with fail
  refine (DA.out _).mono ?_
  rintro e w2 ⟨rfl, hb⟩
  have F2 := F1.below hb F1.1
  have HB2 : Hid (Below w.heap.size w w2) := HB1.out.trans (hb.mono HB1.out.size)
  clear F1 HB1 hb
  go_wp2_with fail
  refine (NU.out _).mono ?_
  rintro e w4 ⟨rfl, hb⟩
  have F4 := F2.below hb F2.1
  have HB4 : Hid (Below w.heap.size w w4) := HB2.out.trans (hb.mono HB2.out.size)
  clear F2 HB2 hb
  go_wp2_with fail
  refine (HO.out _).mono ?_
  rintro e w5 ⟨rfl, hb⟩
  obtain ⟨z1, z2, z3, z4, z5⟩ := F4.below hb F4.1
  have HB5 : Hid (Below w.heap.size w w5) := HB4.out.trans (hb.mono HB4.out.size)
  clear F4 HB4 hb
  go_wp2_with fail
  exact bodyPost_ret (v := .tuple #[.agg #[.int .i64 (ofN v x), .int .i64 (ofS (B.size : Int) x)], .int .i64 x]) (by simp [results, Tryd.results11, go_sem, z2, z3]) rfl ⟨rfl, (HB5.out.setCell (by simp) _).setCell (by simp) _⟩

set_option maxRecDepth 100000 in
set_option maxHeartbeats 1000000 in
theorem read_plus_b1 (s A B : ByteArray) (f : Bool) (dB : Bool) (h1 : 1 ≤ s.size) 
    (P1 : Hid (∀ w : World, Calls Tryd.prog 29 #[.string s, .string ⟨#[45]⟩] w fun e w' => e = .returned (.bool false) ∧ w' = w))
    (P2 : Hid (∀ w : World, Calls Tryd.prog 29 #[.string s, .string ⟨#[43]⟩] w fun e w' => e = .returned (.bool true) ∧ w' = w))
    (HC : Hid (∀ w : World, Calls Tryd.prog 30 #[.string (s.extract 1 s.size), .string ⟨#[46]⟩] w fun e w' => e = .returned (.tuple #[.string A, .string B, .bool f]) ∧ Below w.heap.size w w'))
    (DA : Hid (∀ w : World, Calls Tryd.prog 31 #[.string A] w fun e w' => e = .returned (.bool false) ∧ Below w.heap.size w w'))
    (DB : Hid (∀ w : World, Calls Tryd.prog 31 #[.string B] w fun e w' => e = .returned (.bool dB) ∧ Below w.heap.size w w'))
    (hsz : A.size + B.size ≤ 9223372036854775807) (w : World) :
    Calls Tryd.prog 11 #[.string s] w fun e w' => e = .returned (.tuple #[d0, .int .i64 13]) ∧ Below w.heap.size w w' := by
  have F := Box.new w 0 0
  have HB : Hid (Below w.heap.size w (w.alloc (dbox 0 0))) := (Below.refl _ _).alloc (Nat.le_refl _) _
  have h1' : (1 : Int) ≤ (s.size : Int) := by omega
  go_enter Tryd.func11, Tryd.ntmps11
  go_wp2_with fail
  refine (P1.out _).mono ?_
  rintro e w0 ⟨rfl, rfl⟩
  go_wp2_with fail
  refine (P2.out _).mono ?_
  rintro e w0 ⟨rfl, rfl⟩
  go_wp2_with fail
  refine (HC.out _).mono ?_
  rintro e w1 ⟨rfl, hb⟩
  have F1 := F.below hb F.1
  have HB1 : Hid (Below w.heap.size w w1) := HB.out.trans (hb.mono HB.out.size)
  clear F HB hb
  go_wp2_with fail
  refine (DA.out _).mono ?_
  rintro e w2 ⟨rfl, hb⟩
  have F2 := F1.below hb F1.1
  have HB2 : Hid (Below w.heap.size w w2) := HB1.out.trans (hb.mono HB1.out.size)
  clear F1 HB1 hb
  obtain ⟨z1, z2, z3, z4, z5⟩ := F2
  go_wp2_with fail
  exact bodyPost_ret (v := .tuple #[d0, .int .i64 13]) (by simp [results, Tryd.results11, go_sem, z2, z3]) rfl ⟨rfl, (HB2.out.setCell (by simp) _).setCell (by simp) _⟩

set_option maxRecDepth 100000 in
set_option maxHeartbeats 1000000 in
theorem read_plus_b2 (s A B : ByteArray) (h1 : 1 ≤ s.size) 
    (P1 : Hid (∀ w : World, Calls Tryd.prog 29 #[.string s, .string ⟨#[45]⟩] w fun e w' => e = .returned (.bool false) ∧ w' = w))
    (P2 : Hid (∀ w : World, Calls Tryd.prog 29 #[.string s, .string ⟨#[43]⟩] w fun e w' => e = .returned (.bool true) ∧ w' = w))
    (HC : Hid (∀ w : World, Calls Tryd.prog 30 #[.string (s.extract 1 s.size), .string ⟨#[46]⟩] w fun e w' => e = .returned (.tuple #[.string A, .string B, .bool true]) ∧ Below w.heap.size w w'))
    (DA : Hid (∀ w : World, Calls Tryd.prog 31 #[.string A] w fun e w' => e = .returned (.bool true) ∧ Below w.heap.size w w'))
    (DB : Hid (∀ w : World, Calls Tryd.prog 31 #[.string B] w fun e w' => e = .returned (.bool false) ∧ Below w.heap.size w w'))
    (hsz : A.size + B.size ≤ 9223372036854775807) (w : World) :
    Calls Tryd.prog 11 #[.string s] w fun e w' => e = .returned (.tuple #[d0, .int .i64 13]) ∧ Below w.heap.size w w' := by
  have F := Box.new w 0 0
  have HB : Hid (Below w.heap.size w (w.alloc (dbox 0 0))) := (Below.refl _ _).alloc (Nat.le_refl _) _
  have h1' : (1 : Int) ≤ (s.size : Int) := by omega
  go_enter Tryd.func11, Tryd.ntmps11
  go_wp2_with fail
  refine (P1.out _).mono ?_
  rintro e w0 ⟨rfl, rfl⟩
  go_wp2_with fail
  refine (P2.out _).mono ?_
  rintro e w0 ⟨rfl, rfl⟩
  go_wp2_with fail
  refine (HC.out _).mono ?_
  rintro e w1 ⟨rfl, hb⟩
  have F1 := F.below hb F.1
  have HB1 : Hid (Below w.heap.size w w1) := HB.out.trans (hb.mono HB.out.size)
  clear F HB hb
  go_wp2_with fail
  refine (DA.out _).mono ?_
  rintro e w2 ⟨rfl, hb⟩
  have F2 := F1.below hb F1.1
  have HB2 : Hid (Below w.heap.size w w2) := HB1.out.trans (hb.mono HB1.out.size)
  clear F1 HB1 hb
  go_wp2_with fail
  refine (DB.out _).mono ?_
  rintro e w3 ⟨rfl, hb⟩
  have F3 := F2.below hb F2.1
  have HB3 : Hid (Below w.heap.size w w3) := HB2.out.trans (hb.mono HB2.out.size)
  clear F2 HB2 hb
  obtain ⟨z1, z2, z3, z4, z5⟩ := F3
  go_wp2_with fail
  exact bodyPost_ret (v := .tuple #[d0, .int .i64 13]) (by simp [results, Tryd.results11, go_sem, z2, z3]) rfl ⟨rfl, (HB3.out.setCell (by simp) _).setCell (by simp) _⟩

set_option maxRecDepth 100000 in
set_option maxHeartbeats 1000000 in
theorem read_plus_b3 (s A B : ByteArray) (h1 : 1 ≤ s.size) (h9 : 9 < (B.size : Int))
    (P1 : Hid (∀ w : World, Calls Tryd.prog 29 #[.string s, .string ⟨#[45]⟩] w fun e w' => e = .returned (.bool false) ∧ w' = w))
    (P2 : Hid (∀ w : World, Calls Tryd.prog 29 #[.string s, .string ⟨#[43]⟩] w fun e w' => e = .returned (.bool true) ∧ w' = w))
    (HC : Hid (∀ w : World, Calls Tryd.prog 30 #[.string (s.extract 1 s.size), .string ⟨#[46]⟩] w fun e w' => e = .returned (.tuple #[.string A, .string B, .bool true]) ∧ Below w.heap.size w w'))
    (DA : Hid (∀ w : World, Calls Tryd.prog 31 #[.string A] w fun e w' => e = .returned (.bool true) ∧ Below w.heap.size w w'))
    (DB : Hid (∀ w : World, Calls Tryd.prog 31 #[.string B] w fun e w' => e = .returned (.bool true) ∧ Below w.heap.size w w'))
    (hsz : A.size + B.size ≤ 9223372036854775807) (w : World) :
    Calls Tryd.prog 11 #[.string s] w fun e w' => e = .returned (.tuple #[d0, .int .i64 13]) ∧ Below w.heap.size w w' := by
  have F := Box.new w 0 0
  have HB : Hid (Below w.heap.size w (w.alloc (dbox 0 0))) := (Below.refl _ _).alloc (Nat.le_refl _) _
  have h1' : (1 : Int) ≤ (s.size : Int) := by omega
  go_enter Tryd.func11, Tryd.ntmps11
  go_wp2_with fail
  refine (P1.out _).mono ?_
  rintro e w0 ⟨rfl, rfl⟩
  go_wp2_with fail
  refine (P2.out _).mono ?_
  rintro e w0 ⟨rfl, rfl⟩
  go_wp2_with fail
  refine (HC.out _).mono ?_
  rintro e w1 ⟨rfl, hb⟩
  have F1 := F.below hb F.1
  have HB1 : Hid (Below w.heap.size w w1) := HB.out.trans (hb.mono HB.out.size)
  clear F HB hb
  go_wp2_with fail
  refine (DA.out _).mono ?_
  rintro e w2 ⟨rfl, hb⟩
  have F2 := F1.below hb F1.1
  have HB2 : Hid (Below w.heap.size w w2) := HB1.out.trans (hb.mono HB1.out.size)
  clear F1 HB1 hb
  go_wp2_with fail
  refine (DB.out _).mono ?_
  rintro e w3 ⟨rfl, hb⟩
  have F3 := F2.below hb F2.1
  have HB3 : Hid (Below w.heap.size w w3) := HB2.out.trans (hb.mono HB2.out.size)
  clear F2 HB2 hb
  obtain ⟨z1, z2, z3, z4, z5⟩ := F3
  go_wp2_with fail
  exact bodyPost_ret (v := .tuple #[d0, .int .i64 13]) (by simp [results, Tryd.results11, go_sem, z2, z3]) rfl ⟨rfl, (HB3.out.setCell (by simp) _).setCell (by simp) _⟩

set_option maxRecDepth 100000 in
set_option maxHeartbeats 1000000 in
theorem read_plus_g1 (s A B : ByteArray) (v x : Int) (h1 : 1 ≤ s.size) (h9 : ¬ 9 < (B.size : Int))
    (P1 : Hid (∀ w : World, Calls Tryd.prog 29 #[.string s, .string ⟨#[45]⟩] w fun e w' => e = .returned (.bool false) ∧ w' = w))
    (P2 : Hid (∀ w : World, Calls Tryd.prog 29 #[.string s, .string ⟨#[43]⟩] w fun e w' => e = .returned (.bool true) ∧ w' = w))
    (HC : Hid (∀ w : World, Calls Tryd.prog 30 #[.string (s.extract 1 s.size), .string ⟨#[46]⟩] w fun e w' => e = .returned (.tuple #[.string A, .string B, .bool true]) ∧ Below w.heap.size w w'))
    (DA : Hid (∀ w : World, Calls Tryd.prog 31 #[.string A] w fun e w' => e = .returned (.bool true) ∧ Below w.heap.size w w'))
    (DB : Hid (∀ w : World, Calls Tryd.prog 31 #[.string B] w fun e w' => e = .returned (.bool true) ∧ Below w.heap.size w w'))
    (NU : Hid (∀ w : World, Calls Tryd.prog 32 #[.string (A ++ B), .bool false] w fun e w' => e = .returned (.tuple #[.int .i64 v, .int .i64 x]) ∧ Below w.heap.size w w'))
    (hsz : A.size + B.size ≤ 9223372036854775807) (w : World) :
    Calls Tryd.prog 11 #[.string s] w fun e w' => e = .returned (.tuple #[.agg #[.int .i64 (ofN v x), .int .i64 (ofS (B.size : Int) x)], .int .i64 x]) ∧ Below w.heap.size w w' := by
  have HO : Hid (∀ w : World, Calls Tryd.prog 33 #[.int .i64 v, .int .i64 (B.size : Int), .int .i64 x] w fun e w' => e = .returned (.tuple #[.agg #[.int .i64 (ofN v x), .int .i64 (ofS (B.size : Int) x)], .int .i64 x]) ∧ Below w.heap.size w w') := of_any v B.size x
  have F := Box.new w 0 0
  have HB : Hid (Below w.heap.size w (w.alloc (dbox 0 0))) := (Below.refl _ _).alloc (Nat.le_refl _) _
  have h1' : (1 : Int) ≤ (s.size : Int) := by omega
  go_enter Tryd.func11, Tryd.ntmps11
  go_wp2_with fail
  refine (P1.out _).mono ?_
  rintro e w0 ⟨rfl, rfl⟩
  go_wp2_with fail
  refine (P2.out _).mono ?_
  rintro e w0 ⟨rfl, rfl⟩
  go_wp2_with fail
  refine (HC.out _).mono ?_
  rintro e w1 ⟨rfl, hb⟩
  have F1 := F.below hb F.1
  have HB1 : Hid (Below w.heap.size w w1) := HB.out.trans (hb.mono HB.out.size)
  clear F HB hb
  go_wp2_with fail
  refine (DA.out _).mono ?_
  rintro e w2 ⟨rfl, hb⟩
  have F2 := F1.below hb F1.1
  have HB2 : Hid (Below w.heap.size w w2) := HB1.out.trans (hb.mono HB1.out.size)
  clear F1 HB1 hb
  go_wp2_with fail
  refine (DB.out _).mono ?_
  rintro e w3 ⟨rfl, hb⟩
  have F3 := F2.below hb F2.1
  have HB3 : Hid (Below w.heap.size w w3) := HB2.out.trans (hb.mono HB2.out.size)
  clear F2 HB2 hb
  go_wp2_with fail
  refine (NU.out _).mono ?_
  rintro e w4 ⟨rfl, hb⟩
  have F4 := F3.below hb F3.1
  have HB4 : Hid (Below w.heap.size w w4) := HB3.out.trans (hb.mono HB3.out.size)
  clear F3 HB3 hb
  go_wp2_with fail
  refine (HO.out _).mono ?_
  rintro e w5 ⟨rfl, hb⟩
  obtain ⟨z1, z2, z3, z4, z5⟩ := F4.below hb F4.1
  have HB5 : Hid (Below w.heap.size w w5) := HB4.out.trans (hb.mono HB4.out.size)
  clear F4 HB4 hb
  go_wp2_with fail
  exact bodyPost_ret (v := .tuple #[.agg #[.int .i64 (ofN v x), .int .i64 (ofS (B.size : Int) x)], .int .i64 x]) (by simp [results, Tryd.results11, go_sem, z2, z3]) rfl ⟨rfl, (HB5.out.setCell (by simp) _).setCell (by simp) _⟩

set_option maxRecDepth 100000 in
set_option maxHeartbeats 1000000 in
theorem read_plus_g2 (s A B : ByteArray) (dB : Bool) (v x : Int) (h1 : 1 ≤ s.size) 
    (P1 : Hid (∀ w : World, Calls Tryd.prog 29 #[.string s, .string ⟨#[45]⟩] w fun e w' => e = .returned (.bool false) ∧ w' = w))
    (P2 : Hid (∀ w : World, Calls Tryd.prog 29 #[.string s, .string ⟨#[43]⟩] w fun e w' => e = .returned (.bool true) ∧ w' = w))
    (HC : Hid (∀ w : World, Calls Tryd.prog 30 #[.string (s.extract 1 s.size), .string ⟨#[46]⟩] w fun e w' => e = .returned (.tuple #[.string A, .string B, .bool false]) ∧ Below w.heap.size w w'))
    (DA : Hid (∀ w : World, Calls Tryd.prog 31 #[.string A] w fun e w' => e = .returned (.bool true) ∧ Below w.heap.size w w'))
    (DB : Hid (∀ w : World, Calls Tryd.prog 31 #[.string B] w fun e w' => e = .returned (.bool dB) ∧ Below w.heap.size w w'))
    (NU : Hid (∀ w : World, Calls Tryd.prog 32 #[.string (A ++ B), .bool false] w fun e w' => e = .returned (.tuple #[.int .i64 v, .int .i64 x]) ∧ Below w.heap.size w w'))
    (hsz : A.size + B.size ≤ 9223372036854775807) (w : World) :
    Calls Tryd.prog 11 #[.string s] w fun e w' => e = .returned (.tuple #[.agg #[.int .i64 (ofN v x), .int .i64 (ofS (B.size : Int) x)], .int .i64 x]) ∧ Below w.heap.size w w' := by
  have HO : Hid (∀ w : World, Calls Tryd.prog 33 #[.int .i64 v, .int .i64 (B.size : Int), .int .i64 x] w fun e w' => e = .returned (.tuple #[.agg #[.int .i64 (ofN v x), .int .i64 (ofS (B.size : Int) x)], .int .i64 x]) ∧ Below w.heap.size w w') := of_any v B.size x
  have F := Box.new w 0 0
  have HB : Hid (Below w.heap.size w (w.alloc (dbox 0 0))) := (Below.refl _ _).alloc (Nat.le_refl _) _
  have h1' : (1 : Int) ≤ (s.size : Int) := by omega
  go_enter Tryd.func11, Tryd.ntmps11
  go_wp2_with fail
  refine (P1.out _).mono ?_
  rintro e w0 ⟨rfl, rfl⟩
  go_wp2_with fail
  refine (P2.out _).mono ?_
  rintro e w0 ⟨rfl, rfl⟩
  go_wp2_with fail
  refine (HC.out _).mono ?_
  rintro e w1 ⟨rfl, hb⟩
  have F1 := F.below hb F.1
  have HB1 : Hid (Below w.heap.size w w1) := HB.out.trans (hb.mono HB.out.size)
  clear F HB hb
  go_wp2_with fail
  refine (DA.out _).mono ?_
  rintro e w2 ⟨rfl, hb⟩
  have F2 := F1.below hb F1.1
  have HB2 : Hid (Below w.heap.size w w2) := HB1.out.trans (hb.mono HB1.out.size)
  clear F1 HB1 hb
  go_wp2_with fail
  refine (NU.out _).mono ?_
  rintro e w4 ⟨rfl, hb⟩
  have F4 := F2.below hb F2.1
  have HB4 : Hid (Below w.heap.size w w4) := HB2.out.trans (hb.mono HB2.out.size)
  clear F2 HB2 hb
  go_wp2_with fail
  refine (HO.out _).mono ?_
  rintro e w5 ⟨rfl, hb⟩
  obtain ⟨z1, z2, z3, z4, z5⟩ := F4.below hb F4.1
  have HB5 : Hid (Below w.heap.size w w5) := HB4.out.trans (hb.mono HB4.out.size)
  clear F4 HB4 hb
  go_wp2_with fail
  exact bodyPost_ret (v := .tuple #[.agg #[.int .i64 (ofN v x), .int .i64 (ofS (B.size : Int) x)], .int .i64 x]) (by simp [results, Tryd.results11, go_sem, z2, z3]) rfl ⟨rfl, (HB5.out.setCell (by simp) _).setCell (by simp) _⟩

set_option maxRecDepth 100000 in
set_option maxHeartbeats 1000000 in
theorem read_none_b1 (s A B : ByteArray) (f : Bool) (dB : Bool) 
    (P1 : Hid (∀ w : World, Calls Tryd.prog 29 #[.string s, .string ⟨#[45]⟩] w fun e w' => e = .returned (.bool false) ∧ w' = w))
    (P2 : Hid (∀ w : World, Calls Tryd.prog 29 #[.string s, .string ⟨#[43]⟩] w fun e w' => e = .returned (.bool false) ∧ w' = w))
    (HC : Hid (∀ w : World, Calls Tryd.prog 30 #[.string s, .string ⟨#[46]⟩] w fun e w' => e = .returned (.tuple #[.string A, .string B, .bool f]) ∧ Below w.heap.size w w'))
    (DA : Hid (∀ w : World, Calls Tryd.prog 31 #[.string A] w fun e w' => e = .returned (.bool false) ∧ Below w.heap.size w w'))
    (DB : Hid (∀ w : World, Calls Tryd.prog 31 #[.string B] w fun e w' => e = .returned (.bool dB) ∧ Below w.heap.size w w'))
    (hsz : A.size + B.size ≤ 9223372036854775807) (w : World) :
    Calls Tryd.prog 11 #[.string s] w fun e w' => e = .returned (.tuple #[d0, .int .i64 13]) ∧ Below w.heap.size w w' := by
  have F := Box.new w 0 0
  have HB : Hid (Below w.heap.size w (w.alloc (dbox 0 0))) := (Below.refl _ _).alloc (Nat.le_refl _) _
  go_enter Tryd.func11, Tryd.ntmps11
  go_wp2_with fail
  refine (P1.out _).mono ?_
  rintro e w0 ⟨rfl, rfl⟩
  go_wp2_with fail
  refine (P2.out _).mono ?_
  rintro e w0 ⟨rfl, rfl⟩
  go_wp2_with fail
  refine (HC.out _).mono ?_
  rintro e w1 ⟨rfl, hb⟩
  have F1 := F.below hb F.1
  have HB1 : Hid (Below w.heap.size w w1) := HB.out.trans (hb.mono HB.out.size)
  clear F HB hb
  go_wp2_with fail
  refine (DA.out _).mono ?_
  rintro e w2 ⟨rfl, hb⟩
  have F2 := F1.below hb F1.1
  have HB2 : Hid (Below w.heap.size w w2) := HB1.out.trans (hb.mono HB1.out.size)
  clear F1 HB1 hb
  obtain ⟨z1, z2, z3, z4, z5⟩ := F2
  go_wp2_with fail
  exact bodyPost_ret (v := .tuple #[d0, .int .i64 13]) (by simp [results, Tryd.results11, go_sem, z2, z3]) rfl ⟨rfl, (HB2.out.setCell (by simp) _).setCell (by simp) _⟩

set_option maxRecDepth 100000 in
set_option maxHeartbeats 1000000 in
theorem read_none_b2 (s A B : ByteArray) 
    (P1 : Hid (∀ w : World, Calls Tryd.prog 29 #[.string s, .string ⟨#[45]⟩] w fun e w' => e = .returned (.bool false) ∧ w' = w))
    (P2 : Hid (∀ w : World, Calls Tryd.prog 29 #[.string s, .string ⟨#[43]⟩] w fun e w' => e = .returned (.bool false) ∧ w' = w))
    (HC : Hid (∀ w : World, Calls Tryd.prog 30 #[.string s, .string ⟨#[46]⟩] w fun e w' => e = .returned (.tuple #[.string A, .string B, .bool true]) ∧ Below w.heap.size w w'))
    (DA : Hid (∀ w : World, Calls Tryd.prog 31 #[.string A] w fun e w' => e = .returned (.bool true) ∧ Below w.heap.size w w'))
    (DB : Hid (∀ w : World, Calls Tryd.prog 31 #[.string B] w fun e w' => e = .returned (.bool false) ∧ Below w.heap.size w w'))
    (hsz : A.size + B.size ≤ 9223372036854775807) (w : World) :
    Calls Tryd.prog 11 #[.string s] w fun e w' => e = .returned (.tuple #[d0, .int .i64 13]) ∧ Below w.heap.size w w' := by
  have F := Box.new w 0 0
  have HB : Hid (Below w.heap.size w (w.alloc (dbox 0 0))) := (Below.refl _ _).alloc (Nat.le_refl _) _
  go_enter Tryd.func11, Tryd.ntmps11
  go_wp2_with fail
  refine (P1.out _).mono ?_
  rintro e w0 ⟨rfl, rfl⟩
  go_wp2_with fail
  refine (P2.out _).mono ?_
  rintro e w0 ⟨rfl, rfl⟩
  go_wp2_with fail
  refine (HC.out _).mono ?_
  rintro e w1 ⟨rfl, hb⟩
  have F1 := F.below hb F.1
  have HB1 : Hid (Below w.heap.size w w1) := HB.out.trans (hb.mono HB.out.size)
  clear F HB hb
  go_wp2_with fail
  refine (DA.out _).mono ?_
  rintro e w2 ⟨rfl, hb⟩
  have F2 := F1.below hb F1.1
  have HB2 : Hid (Below w.heap.size w w2) := HB1.out.trans (hb.mono HB1.out.size)
  clear F1 HB1 hb
  go_wp2_with fail
  refine (DB.out _).mono ?_
  rintro e w3 ⟨rfl, hb⟩
  have F3 := F2.below hb F2.1
  have HB3 : Hid (Below w.heap.size w w3) := HB2.out.trans (hb.mono HB2.out.size)
  clear F2 HB2 hb
  obtain ⟨z1, z2, z3, z4, z5⟩ := F3
  go_wp2_with fail
  exact bodyPost_ret (v := .tuple #[d0, .int .i64 13]) (by simp [results, Tryd.results11, go_sem, z2, z3]) rfl ⟨rfl, (HB3.out.setCell (by simp) _).setCell (by simp) _⟩

set_option maxRecDepth 100000 in
set_option maxHeartbeats 1000000 in
theorem read_none_b3 (s A B : ByteArray) (h9 : 9 < (B.size : Int))
    (P1 : Hid (∀ w : World, Calls Tryd.prog 29 #[.string s, .string ⟨#[45]⟩] w fun e w' => e = .returned (.bool false) ∧ w' = w))
    (P2 : Hid (∀ w : World, Calls Tryd.prog 29 #[.string s, .string ⟨#[43]⟩] w fun e w' => e = .returned (.bool false) ∧ w' = w))
    (HC : Hid (∀ w : World, Calls Tryd.prog 30 #[.string s, .string ⟨#[46]⟩] w fun e w' => e = .returned (.tuple #[.string A, .string B, .bool true]) ∧ Below w.heap.size w w'))
    (DA : Hid (∀ w : World, Calls Tryd.prog 31 #[.string A] w fun e w' => e = .returned (.bool true) ∧ Below w.heap.size w w'))
    (DB : Hid (∀ w : World, Calls Tryd.prog 31 #[.string B] w fun e w' => e = .returned (.bool true) ∧ Below w.heap.size w w'))
    (hsz : A.size + B.size ≤ 9223372036854775807) (w : World) :
    Calls Tryd.prog 11 #[.string s] w fun e w' => e = .returned (.tuple #[d0, .int .i64 13]) ∧ Below w.heap.size w w' := by
  have F := Box.new w 0 0
  have HB : Hid (Below w.heap.size w (w.alloc (dbox 0 0))) := (Below.refl _ _).alloc (Nat.le_refl _) _
  go_enter Tryd.func11, Tryd.ntmps11
  go_wp2_with fail
  refine (P1.out _).mono ?_
  rintro e w0 ⟨rfl, rfl⟩
  go_wp2_with fail
  refine (P2.out _).mono ?_
  rintro e w0 ⟨rfl, rfl⟩
  go_wp2_with fail
  refine (HC.out _).mono ?_
  rintro e w1 ⟨rfl, hb⟩
  have F1 := F.below hb F.1
  have HB1 : Hid (Below w.heap.size w w1) := HB.out.trans (hb.mono HB.out.size)
  clear F HB hb
  go_wp2_with fail
  refine (DA.out _).mono ?_
  rintro e w2 ⟨rfl, hb⟩
  have F2 := F1.below hb F1.1
  have HB2 : Hid (Below w.heap.size w w2) := HB1.out.trans (hb.mono HB1.out.size)
  clear F1 HB1 hb
  go_wp2_with fail
  refine (DB.out _).mono ?_
  rintro e w3 ⟨rfl, hb⟩
  have F3 := F2.below hb F2.1
  have HB3 : Hid (Below w.heap.size w w3) := HB2.out.trans (hb.mono HB2.out.size)
  clear F2 HB2 hb
  obtain ⟨z1, z2, z3, z4, z5⟩ := F3
  go_wp2_with fail
  exact bodyPost_ret (v := .tuple #[d0, .int .i64 13]) (by simp [results, Tryd.results11, go_sem, z2, z3]) rfl ⟨rfl, (HB3.out.setCell (by simp) _).setCell (by simp) _⟩

set_option maxRecDepth 100000 in
set_option maxHeartbeats 1000000 in
theorem read_none_g1 (s A B : ByteArray) (v x : Int) (h9 : ¬ 9 < (B.size : Int))
    (P1 : Hid (∀ w : World, Calls Tryd.prog 29 #[.string s, .string ⟨#[45]⟩] w fun e w' => e = .returned (.bool false) ∧ w' = w))
    (P2 : Hid (∀ w : World, Calls Tryd.prog 29 #[.string s, .string ⟨#[43]⟩] w fun e w' => e = .returned (.bool false) ∧ w' = w))
    (HC : Hid (∀ w : World, Calls Tryd.prog 30 #[.string s, .string ⟨#[46]⟩] w fun e w' => e = .returned (.tuple #[.string A, .string B, .bool true]) ∧ Below w.heap.size w w'))
    (DA : Hid (∀ w : World, Calls Tryd.prog 31 #[.string A] w fun e w' => e = .returned (.bool true) ∧ Below w.heap.size w w'))
    (DB : Hid (∀ w : World, Calls Tryd.prog 31 #[.string B] w fun e w' => e = .returned (.bool true) ∧ Below w.heap.size w w'))
    (NU : Hid (∀ w : World, Calls Tryd.prog 32 #[.string (A ++ B), .bool false] w fun e w' => e = .returned (.tuple #[.int .i64 v, .int .i64 x]) ∧ Below w.heap.size w w'))
    (hsz : A.size + B.size ≤ 9223372036854775807) (w : World) :
    Calls Tryd.prog 11 #[.string s] w fun e w' => e = .returned (.tuple #[.agg #[.int .i64 (ofN v x), .int .i64 (ofS (B.size : Int) x)], .int .i64 x]) ∧ Below w.heap.size w w' := by
  have HO : Hid (∀ w : World, Calls Tryd.prog 33 #[.int .i64 v, .int .i64 (B.size : Int), .int .i64 x] w fun e w' => e = .returned (.tuple #[.agg #[.int .i64 (ofN v x), .int .i64 (ofS (B.size : Int) x)], .int .i64 x]) ∧ Below w.heap.size w w') := of_any v B.size x
  have F := Box.new w 0 0
  have HB : Hid (Below w.heap.size w (w.alloc (dbox 0 0))) := (Below.refl _ _).alloc (Nat.le_refl _) _
  go_enter Tryd.func11, Tryd.ntmps11
  go_wp2_with fail
  refine (P1.out _).mono ?_
  rintro e w0 ⟨rfl, rfl⟩
  go_wp2_with fail
  refine (P2.out _).mono ?_
  rintro e w0 ⟨rfl, rfl⟩
  go_wp2_with fail
  refine (HC.out _).mono ?_
  rintro e w1 ⟨rfl, hb⟩
  have F1 := F.below hb F.1
  have HB1 : Hid (Below w.heap.size w w1) := HB.out.trans (hb.mono HB.out.size)
  clear F HB hb
  go_wp2_with fail
  refine (DA.out _).mono ?_
  rintro e w2 ⟨rfl, hb⟩
  have F2 := F1.below hb F1.1
  have HB2 : Hid (Below w.heap.size w w2) := HB1.out.trans (hb.mono HB1.out.size)
  clear F1 HB1 hb
  go_wp2_with fail
  refine (DB.out _).mono ?_
  rintro e w3 ⟨rfl, hb⟩
  have F3 := F2.below hb F2.1
  have HB3 : Hid (Below w.heap.size w w3) := HB2.out.trans (hb.mono HB2.out.size)
  clear F2 HB2 hb
  go_wp2_with fail
  refine (NU.out _).mono ?_
  rintro e w4 ⟨rfl, hb⟩
  have F4 := F3.below hb F3.1
  have HB4 : Hid (Below w.heap.size w w4) := HB3.out.trans (hb.mono HB3.out.size)
  clear F3 HB3 hb
  go_wp2_with fail
  refine (HO.out _).mono ?_
  rintro e w5 ⟨rfl, hb⟩
  obtain ⟨z1, z2, z3, z4, z5⟩ := F4.below hb F4.1
  have HB5 : Hid (Below w.heap.size w w5) := HB4.out.trans (hb.mono HB4.out.size)
  clear F4 HB4 hb
  go_wp2_with fail
  exact bodyPost_ret (v := .tuple #[.agg #[.int .i64 (ofN v x), .int .i64 (ofS (B.size : Int) x)], .int .i64 x]) (by simp [results, Tryd.results11, go_sem, z2, z3]) rfl ⟨rfl, (HB5.out.setCell (by simp) _).setCell (by simp) _⟩

set_option maxRecDepth 100000 in
set_option maxHeartbeats 1000000 in
theorem read_none_g2 (s A B : ByteArray) (dB : Bool) (v x : Int) 
    (P1 : Hid (∀ w : World, Calls Tryd.prog 29 #[.string s, .string ⟨#[45]⟩] w fun e w' => e = .returned (.bool false) ∧ w' = w))
    (P2 : Hid (∀ w : World, Calls Tryd.prog 29 #[.string s, .string ⟨#[43]⟩] w fun e w' => e = .returned (.bool false) ∧ w' = w))
    (HC : Hid (∀ w : World, Calls Tryd.prog 30 #[.string s, .string ⟨#[46]⟩] w fun e w' => e = .returned (.tuple #[.string A, .string B, .bool false]) ∧ Below w.heap.size w w'))
    (DA : Hid (∀ w : World, Calls Tryd.prog 31 #[.string A] w fun e w' => e = .returned (.bool true) ∧ Below w.heap.size w w'))
    (DB : Hid (∀ w : World, Calls Tryd.prog 31 #[.string B] w fun e w' => e = .returned (.bool dB) ∧ Below w.heap.size w w'))
    (NU : Hid (∀ w : World, Calls Tryd.prog 32 #[.string (A ++ B), .bool false] w fun e w' => e = .returned (.tuple #[.int .i64 v, .int .i64 x]) ∧ Below w.heap.size w w'))
    (hsz : A.size + B.size ≤ 9223372036854775807) (w : World) :
    Calls Tryd.prog 11 #[.string s] w fun e w' => e = .returned (.tuple #[.agg #[.int .i64 (ofN v x), .int .i64 (ofS (B.size : Int) x)], .int .i64 x]) ∧ Below w.heap.size w w' := by
  have HO : Hid (∀ w : World, Calls Tryd.prog 33 #[.int .i64 v, .int .i64 (B.size : Int), .int .i64 x] w fun e w' => e = .returned (.tuple #[.agg #[.int .i64 (ofN v x), .int .i64 (ofS (B.size : Int) x)], .int .i64 x]) ∧ Below w.heap.size w w') := of_any v B.size x
  have F := Box.new w 0 0
  have HB : Hid (Below w.heap.size w (w.alloc (dbox 0 0))) := (Below.refl _ _).alloc (Nat.le_refl _) _
  go_enter Tryd.func11, Tryd.ntmps11
  go_wp2_with fail
  refine (P1.out _).mono ?_
  rintro e w0 ⟨rfl, rfl⟩
  go_wp2_with fail
  refine (P2.out _).mono ?_
  rintro e w0 ⟨rfl, rfl⟩
  go_wp2_with fail
  refine (HC.out _).mono ?_
  rintro e w1 ⟨rfl, hb⟩
  have F1 := F.below hb F.1
  have HB1 : Hid (Below w.heap.size w w1) := HB.out.trans (hb.mono HB.out.size)
  clear F HB hb
  go_wp2_with fail
  refine (DA.out _).mono ?_
  rintro e w2 ⟨rfl, hb⟩
  have F2 := F1.below hb F1.1
  have HB2 : Hid (Below w.heap.size w w2) := HB1.out.trans (hb.mono HB1.out.size)
  clear F1 HB1 hb
  go_wp2_with fail
  refine (NU.out _).mono ?_
  rintro e w4 ⟨rfl, hb⟩
  have F4 := F2.below hb F2.1
  have HB4 : Hid (Below w.heap.size w w4) := HB2.out.trans (hb.mono HB2.out.size)
  clear F2 HB2 hb
  go_wp2_with fail
  refine (HO.out _).mono ?_
  rintro e w5 ⟨rfl, hb⟩
  obtain ⟨z1, z2, z3, z4, z5⟩ := F4.below hb F4.1
  have HB5 : Hid (Below w.heap.size w w5) := HB4.out.trans (hb.mono HB4.out.size)
  clear F4 HB4 hb
  go_wp2_with fail
  exact bodyPost_ret (v := .tuple #[.agg #[.int .i64 (ofN v x), .int .i64 (ofS (B.size : Int) x)], .int .i64 x]) (by simp [results, Tryd.results11, go_sem, z2, z3]) rfl ⟨rfl, (HB5.out.setCell (by simp) _).setCell (by simp) _⟩

end Go.Proofs.YtebjicnjbiiioaaDoor
