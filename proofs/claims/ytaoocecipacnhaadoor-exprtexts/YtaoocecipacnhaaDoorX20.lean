import Derived.Test.YtaoocecipacnhaaDoorX19
open Go.Value renaming int → vi, string → vS, slice → vL
open Go.IntKind renaming i64 → ki
open List renaming setIfInBounds_toArray → zb, set_cons_zero → zc, set_cons_succ → zd, length_cons → zl
open Go.Act renaming put → za
open Go.Ending renaming returned → zr
set_option maxRecDepth 100000
set_option maxHeartbeats 16000000
set_option linter.all false
namespace Go.Proofs.YtaoocecipacnhaaDoor
open Go.RowKit
def RB (n : Nd) (Q : List Tk) (r : PR) : Prop := (∃ n', r = .ok n' Q ∧ AlP false n' n) ∨ ∃ a, r = .no a 31
def RBL (n : Nd) (L Q : List Tk) (d k : Nat) : Prop := ∀ f, 10 * (L.length + Q.length) + 10 - k ≤ f → RB n Q (par f (.lv k) d (L ++ Q))
def SOk (l : Nat) (p q : Tk) : Prop :=
 ((l = 0 ∨ l = 1 ∨ l = 3 ∨ l = 4 ∨ l = 5) → isT q (sgs l) = false) ∧ (l = 2 → isT p [(4, notB)] = false) ∧ (l = 6 → isT p [(5, b1 45)] = false) ∧ (l = 7 → isT q [(4, atB)] = false) ∧ (l = 8 → isT q [(5, b2 58 58)] = false)
theorem par_lp_no {f lev d : Nat} {n : Nd} {q : Tk} {Q : List Tk} (hf : 1 ≤ f) (h : isT q (sgs lev) = false) : par f (.lp lev n) d (q :: Q) = .ok n (q :: Q) := by
 obtain ⟨f, rfl⟩ : ∃ f', f = f' + 1 := ⟨f - 1, by omega⟩
 rw [par_succ]; unfold pst; dsimp only; rw [if_neg (by simp [h])]
theorem par_zs_no {f d : Nat} {n : Nd} {q : Tk} {Q : List Tk} (hf : 1 ≤ f) (h : isT q [(4, atB)] = false) : par f (.zs n) d (q :: Q) = .ok n (q :: Q) := by
 obtain ⟨f, rfl⟩ : ∃ f', f = f' + 1 := ⟨f - 1, by omega⟩
 rw [par_succ]; unfold pst; dsimp only; rw [if_neg (by simp [h])]
theorem par_cs_no {f d : Nat} {n : Nd} {q : Tk} {Q : List Tk} (hf : 1 ≤ f) (h : isT q [(5, b2 58 58)] = false) : par f (.cs n) d (q :: Q) = .ok n (q :: Q) := by
 obtain ⟨f, rfl⟩ : ∃ f', f = f' + 1 := ⟨f - 1, by omega⟩
 rw [par_succ]; unfold pst; dsimp only; rw [if_neg (by simp [h])]
theorem rb_up {n : Nd} {p q : Tk} {L Q : List Tk} {d k : Nat} (hk : k ≤ 8) (h : RBL n (p :: L) (q :: Q) d (k + 1)) (hs : SOk k p q) : RBL n (p :: L) (q :: Q) d k := by
 intro f hf
 simp only [zl] at hf
 obtain ⟨f, rfl⟩ : ∃ f', f = f' + 1 := ⟨f - 1, by omega⟩
 have h1 := h f (by simp only [zl]; omega)
 obtain ⟨s1, s2, s3, s4, s5⟩ := hs
 rw [List.cons_append] at h1 ⊢
 rw [par_succ]; unfold pst; dsimp only
 by_cases k2 : k = 2
 ·subst k2; rw [if_pos rfl, if_neg (by simp [s2 rfl])]; exact h1
 rw [if_neg k2]
 by_cases k6 : k = 6
 ·subst k6; rw [if_pos rfl, if_neg (by simp [s3 rfl])]; exact h1
 rw [if_neg k6]
 by_cases k3 : k = 3
 ·subst k3; rw [if_pos rfl]
  rcases h1 with ⟨n', e, ha⟩ | ⟨a, e⟩
  ·rw [e]; dsimp only; unfold cmpK; dsimp only; rw [if_neg (by simp [s1 (by simp)])]; exact .inl ⟨n', rfl, ha⟩
  ·rw [e]; exact .inr ⟨a, rfl⟩
 rw [if_neg k3]
 by_cases k7 : k = 7
 ·subst k7; rw [if_pos rfl]
  rcases h1 with ⟨n', e, ha⟩ | ⟨a, e⟩
  ·rw [e]; dsimp only; rw [par_zs_no (by omega) (s4 rfl)]; exact .inl ⟨n', rfl, ha⟩
  ·rw [e]; exact .inr ⟨a, rfl⟩
 rw [if_neg k7]
 by_cases k8 : k = 8
 ·subst k8; rw [if_pos rfl]
  rcases h1 with ⟨n', e, ha⟩ | ⟨a, e⟩
  ·rw [e]; dsimp only; rw [par_cs_no (by omega) (s5 rfl)]; exact .inl ⟨n', rfl, ha⟩
  ·rw [e]; exact .inr ⟨a, rfl⟩
 rw [if_neg k8, if_neg (by omega)]
 rcases h1 with ⟨n', e, ha⟩ | ⟨a, e⟩
 ·rw [e]; dsimp only; rw [par_lp_no (by omega) (s1 (by omega))]; exact .inl ⟨n', rfl, ha⟩
 ·rw [e]; exact .inr ⟨a, rfl⟩
theorem rb_ups {n : Nd} {p q : Tk} {L Q : List Tk} {d : Nat} : ∀ (j k : Nat), k + j ≤ 9 → (∀ l, k ≤ l → l < k + j → SOk l p q) → RBL n (p :: L) (q :: Q) d (k + j) → RBL n (p :: L) (q :: Q) d k
 | 0, k, h, hs, hr => hr
 | j + 1, k, h, hs, hr => rb_up (by omega) (rb_ups j (k + 1) (by omega) (fun l a b => hs l (by omega) (by omega)) (by rw [show k + 1 + j = k + (j + 1) by omega]; exact hr)) (hs k (Nat.le_refl _) (by omega))
theorem rb_br {n : Nd} {p c : Tk} {L Q : List Tk} {d : Nat} (hd20 : d ≤ 20) (hp : p.1 = 5 ∧ p.2.1 = b1 40) (hc : c.1 = 5 ∧ c.2.1 = b1 41) (h : d < 20 → RBL n L (c :: Q) (d + 1) 0) : RBL n (p :: L ++ [c]) Q d 9 := by
 intro f hf
 simp only [List.length_append, zl, List.length_nil] at hf
 obtain ⟨f, rfl⟩ : ∃ f', f = f' + 1 := ⟨f - 1, by omega⟩
 have e : (p :: L ++ [c]) ++ Q = p :: (L ++ c :: Q) := by simp
 rw [e, par_succ]; unfold pst; dsimp only
 have h4 : isT p [(4, trueB), (4, falseB)] = false := by simp [isT, hp.1]
 have h5 : isT p [(5, b1 40)] = true := by simp [isT, hp.1, hp.2]
 have h6 : isT c [(5, b1 41)] = true := by simp [isT, hc.1, hc.2]
 rw [if_neg (by omega), if_neg (by omega), if_neg (by omega), if_neg (by omega), if_neg (by omega), if_pos rfl, if_neg (by omega), if_neg (by omega), if_neg (by omega), if_neg (by simp [h4]), if_pos h5]
 by_cases h20 : d = 20
 ·rw [if_pos h20]; exact .inr ⟨_, rfl⟩
 rw [if_neg h20]
 rcases h (by omega) f (by simp only [zl]; omega) with ⟨n', e1, ha⟩ | ⟨a, e1⟩
 ·rw [e1]; dsimp only; rw [if_pos h6]; exact .inl ⟨n', rfl, ha⟩
 ·rw [e1]; exact .inr ⟨a, rfl⟩
theorem rb_op {a b : Nd} {p o q : Tk} {La Lb Q : List Tk} {d lev : Nat} {at_ : Int} (hl : lev = 0 ∨ lev = 1 ∨ lev = 3 ∨ lev = 4 ∨ lev = 5) (ho : isT o (sgs lev) = true) (hq : isT q (sgs lev) = false)
  (ha : RBL a (p :: La) (o :: (Lb ++ q :: Q)) d (lev + 1)) (hb : RBL b Lb (q :: Q) d (lev + 1)) : RBL (.mk 8 o.2.1 [a, b] at_) (p :: La ++ o :: Lb) (q :: Q) d lev := by
 intro f hf
 simp only [List.length_append, zl] at hf
 obtain ⟨f, rfl⟩ : ∃ f', f = f' + 1 := ⟨f - 1, by omega⟩
 have e : (p :: La ++ o :: Lb) ++ q :: Q = p :: (La ++ o :: (Lb ++ q :: Q)) := by simp
 have h1 := ha f (by simp only [List.length_append, zl]; omega)
 rw [List.cons_append] at h1
 rw [e, par_succ]; unfold pst; dsimp only
 rw [if_neg (by omega), if_neg (by omega)]
 have two : ∀ a' b' : Nd, AlP false a' a → AlP false b' b → AlP false (.mk 8 o.2.1 [a', b'] o.2.2) (.mk 8 o.2.1 [a, b] at_) := fun a' b' x y => .mk _ _ _ _ _ _ (.cons x (.cons y .nil)) (fun z => by cases z)
 by_cases k3 : lev = 3
 ·subst k3; rw [if_pos rfl]
  rcases h1 with ⟨a', e1, x⟩ | ⟨z, e1⟩
  ·rw [e1]; dsimp only; unfold cmpK; dsimp only; rw [if_pos ho]
   rcases hb f (by simp only [zl]; omega) with ⟨b', e2, y⟩ | ⟨z, e2⟩
   ·rw [e2]; exact .inl ⟨_, rfl, two a' b' x y⟩
   ·rw [e2]; exact .inr ⟨z, rfl⟩
  ·rw [e1]; exact .inr ⟨z, rfl⟩
 rw [if_neg k3, if_neg (by omega), if_neg (by omega), if_neg (by omega)]
 rcases h1 with ⟨a', e1, x⟩ | ⟨z, e1⟩
 ·rw [e1]; dsimp only
  obtain ⟨f, rfl⟩ : ∃ f', f = f' + 1 := ⟨f - 1, by omega⟩
  rw [par_succ]; unfold pst; dsimp only; rw [if_pos ho]
  rcases hb f (by simp only [zl]; omega) with ⟨b', e2, y⟩ | ⟨z, e2⟩
  ·rw [e2]; dsimp only; rw [par_lp_no (by omega) hq]; exact .inl ⟨_, rfl, two a' b' x y⟩
  ·rw [e2]; exact .inr ⟨z, rfl⟩
 ·rw [e1]; exact .inr ⟨z, rfl⟩
theorem rb_at {a b : Nd} {p o u z q : Tk} {La Lb Q : List Tk} {d : Nat} {at_ : Int} (ho : isT o [(4, atB)] = true) (hu : isT u [(4, timeB)] = true) (hz : isT z [(4, zoneB)] = true) (hq : isT q [(4, atB)] = false)
  (ha : RBL a (p :: La) (o :: u :: z :: (Lb ++ q :: Q)) d 8) (hb : RBL b Lb (q :: Q) d 8) : RBL (.mk 8 atzB [a, b] at_) (p :: La ++ o :: u :: z :: Lb) (q :: Q) d 7 := by
 intro f hf
 simp only [List.length_append, zl] at hf
 obtain ⟨f, rfl⟩ : ∃ f', f = f' + 1 := ⟨f - 1, by omega⟩
 have e : (p :: La ++ o :: u :: z :: Lb) ++ q :: Q = p :: (La ++ o :: u :: z :: (Lb ++ q :: Q)) := by simp
 have h1 := ha f (by simp only [List.length_append, zl]; omega)
 rw [List.cons_append] at h1
 rw [e, par_succ]; unfold pst; dsimp only
 rw [if_neg (by omega), if_neg (by omega), if_neg (by omega), if_pos rfl]
 rcases h1 with ⟨a', e1, x⟩ | ⟨y, e1⟩
 ·rw [e1]; dsimp only
  obtain ⟨f, rfl⟩ : ∃ f', f = f' + 1 := ⟨f - 1, by omega⟩
  rw [par_succ]; unfold pst; dsimp only; rw [if_pos ho, if_pos hu, if_pos hz]
  rcases hb f (by simp only [zl]; omega) with ⟨b', e2, y⟩ | ⟨y, e2⟩
  ·rw [e2]; dsimp only; rw [par_zs_no (by omega) hq]; exact .inl ⟨_, rfl, .mk _ _ _ _ _ _ (.cons x (.cons y .nil)) (fun z => by cases z)⟩
  ·rw [e2]; exact .inr ⟨y, rfl⟩
 ·rw [e1]; exact .inr ⟨y, rfl⟩
theorem rb_un {m : Nd} {p : Tk} {L Q : List Tk} {d k : Nat} {kd at_ : Int} (hk : (k = 6 ∧ kd = 6 ∧ isT p [(5, b1 45)] = true) ∨ (k = 2 ∧ kd = 7 ∧ isT p [(4, notB)] = true)) (hd : d ≤ 20) (h : d < 20 → RBL m L Q (d + 1) k) : RBL (.mk kd ⟨#[]⟩ [m] at_) (p :: L) Q d k := by
 intro f hf
 simp only [zl] at hf
 obtain ⟨f, rfl⟩ : ∃ f', f = f' + 1 := ⟨f - 1, by omega⟩
 rw [List.cons_append, par_succ]; unfold pst; dsimp only
 have one : ∀ m' : Nd, AlP false m' m → AlP false (.mk kd ByteArray.empty [m'] p.2.2) (.mk kd ⟨#[]⟩ [m] at_) := fun m' x => .mk _ _ _ _ _ _ (.cons x .nil) (fun z => by cases z)
 rcases hk with ⟨rfl, rfl, hp⟩ | ⟨rfl, rfl, hp⟩
 ·rw [if_neg (by omega), if_pos rfl, if_pos hp]
  by_cases h20 : d = 20
  ·rw [if_pos h20]; exact .inr ⟨_, rfl⟩
  rw [if_neg h20]
  rcases h (by omega) f (by omega) with ⟨m', e, x⟩ | ⟨y, e⟩
  ·rw [e]; exact .inl ⟨_, rfl, one m' x⟩
  ·rw [e]; exact .inr ⟨y, rfl⟩
 ·rw [if_pos rfl, if_pos hp]
  by_cases h20 : d = 20
  ·rw [if_pos h20]; exact .inr ⟨_, rfl⟩
  rw [if_neg h20]
  rcases h (by omega) f (by omega) with ⟨m', e, x⟩ | ⟨y, e⟩
  ·rw [e]; exact .inl ⟨_, rfl, one m' x⟩
  ·rw [e]; exact .inr ⟨y, rfl⟩
theorem rb_cast {a : Nd} {p o t q : Tk} {La Q : List Tk} {d : Nat} {at_ : Int} (ho : isT o [(5, b2 58 58)] = true) (ht : free t = true) (hq : isT q [(5, b2 58 58)] = false)
  (ha : RBL a (p :: La) (o :: t :: q :: Q) d 9) : RBL (.mk 10 t.2.1 [a] at_) (p :: La ++ [o, t]) (q :: Q) d 8 := by
 intro f hf
 simp only [List.length_append, zl, List.length_nil] at hf
 obtain ⟨f, rfl⟩ : ∃ f', f = f' + 1 := ⟨f - 1, by omega⟩
 have e : (p :: La ++ [o, t]) ++ q :: Q = p :: (La ++ o :: t :: q :: Q) := by simp
 have h1 := ha f (by simp only [zl]; omega)
 rw [List.cons_append] at h1
 rw [e, par_succ]; unfold pst; dsimp only
 rw [if_neg (by omega), if_neg (by omega), if_neg (by omega), if_neg (by omega), if_pos rfl]
 rcases h1 with ⟨a', e1, x⟩ | ⟨y, e1⟩
 ·rw [e1]; dsimp only
  obtain ⟨f, rfl⟩ : ∃ f', f = f' + 1 := ⟨f - 1, by omega⟩
  rw [par_succ]; unfold pst; dsimp only; rw [if_pos ho, if_pos ht, par_cs_no (by omega) hq]
  exact .inl ⟨_, rfl, .mk _ _ _ _ _ _ (.cons x .nil) (fun z => by cases z)⟩
 ·rw [e1]; exact .inr ⟨y, rfl⟩
def isL (p : Tk) : Prop := p.1 = 5 ∧ p.2.1 = b1 40
def isR (p : Tk) : Prop := p.1 = 5 ∧ p.2.1 = b1 41
mutual
inductive NT : Nd → List Tk → Prop where
 | num (p : Tk) (a : Int) (h : p.1 = 1) : NT (.mk 1 p.2.1 [] a) [p]
 | dec (p : Tk) (a : Int) (h : p.1 = 2) : NT (.mk 2 p.2.1 [] a) [p]
 | txt (p : Tk) (a : Int) (h : p.1 = 3) : NT (.mk 3 p.2.1 [] a) [p]
 | tf (p : Tk) (a : Int) (h : p.1 = 4) (h2 : p.2.1 = trueB ∨ p.2.1 = falseB) : NT (.mk 4 p.2.1 [] a) [p]
 | lit (p u : Tk) (a b : Int) (h : p.1 = 4) (h2 : typB p.2.1 = true) (h3 : u.1 = 3) : NT (.mk 5 p.2.1 [.mk 3 u.2.1 [] b] a) [p, u]
 | neg (l m r : Tk) (a : Int) (x : Nd) (L : List Tk) (hl : isL l) (hm : m.1 = 5 ∧ m.2.1 = b1 45) (hr : isR r) (h : NT x L) : NT (.mk 6 ⟨#[]⟩ [x] a) (l :: (m :: L) ++ [r])
 | not (l m r : Tk) (a : Int) (x : Nd) (L : List Tk) (hl : isL l) (hm : m.1 = 4 ∧ m.2.1 = notB) (hr : isR r) (h : NT x L) : NT (.mk 7 ⟨#[]⟩ [x] a) (l :: (m :: L) ++ [r])
 | op (l o r : Tk) (a : Int) (lev : Nat) (x y : Nd) (L M : List Tk) (hl : isL l) (hv : lev = 0 ∨ lev = 1 ∨ lev = 3 ∨ lev = 4 ∨ lev = 5) (ho : isT o (sgs lev) = true) (hr : isR r) (h : NT x L) (h2 : NT y M) : NT (.mk 8 o.2.1 [x, y] a) (l :: (L ++ o :: M) ++ [r])
 | at_ (l o u z r : Tk) (a : Int) (x y : Nd) (L M : List Tk) (hl : isL l) (ho : isT o [(4, atB)] = true) (hu : isT u [(4, timeB)] = true) (hz : isT z [(4, zoneB)] = true) (hr : isR r) (h : NT x L) (h2 : NT y M) : NT (.mk 8 atzB [x, y] a) (l :: (L ++ o :: u :: z :: M) ++ [r])
 | call0 (p l r : Tk) (a : Int) (h : free p = true) (hl : isL l) (hr : isR r) : NT (.mk 9 p.2.1 [] a) [p, l, r]
 | call (p l r : Tk) (a : Int) (ks : List Nd) (L : List Tk) (h : free p = true) (hl : isL l) (hr : isR r) (hk : KT ks L) : NT (.mk 9 p.2.1 ks a) (p :: l :: L ++ [r])
 | cast (l o t r : Tk) (a : Int) (x : Nd) (L : List Tk) (hl : isL l) (ho : isT o [(5, b2 58 58)] = true) (ht : free t = true) (hr : isR r) (h : NT x L) : NT (.mk 10 t.2.1 [x] a) (l :: (L ++ [o, t]) ++ [r])
inductive KT : List Nd → List Tk → Prop where
 | one (x : Nd) (L : List Tk) (h : NT x L) : KT [x] L
 | more (x y : Nd) (ks : List Nd) (c : Tk) (L M : List Tk) (hc : c.1 = 5 ∧ c.2.1 = b1 44) (h : NT x L) (hk : KT (y :: ks) M) : KT (x :: y :: ks) (L ++ c :: M)
end
theorem isT_sign {p : Tk} {x : ByteArray} (h : p.1 = 5 ∧ p.2.1 = x) (l : List (Int × ByteArray)) : isT p l = l.any (fun y => decide ((5 : Int) = y.1 ∧ x = y.2)) := by
 unfold isT; rw [h.1, h.2]
theorem sok_end {p q : Tk} {x : ByteArray} (hx : x = b1 41 ∨ x = b1 44) (hq : q.1 = 5 ∧ q.2.1 = x) (h2 : isT p [(4, notB)] = false) (h6 : isT p [(5, b1 45)] = false) (l : Nat) : SOk l p q := by
 refine ⟨fun h => ?_, fun _ => h2, fun _ => h6, fun _ => ?_, fun _ => ?_⟩
 ·rw [isT_sign hq]
  rcases hx with rfl | rfl <;> rcases h with rfl | rfl | rfl | rfl | rfl <;> decide +kernel
 ·rw [isT_sign hq]
  rcases hx with rfl | rfl <;> decide +kernel
 ·rw [isT_sign hq]
  rcases hx with rfl | rfl <;> decide +kernel
theorem sgs_get {o : Tk} {lev : Nat} (ho : isT o (sgs lev) = true) : ∃ x ∈ sgs lev, o.1 = x.1 ∧ o.2.1 = x.2 := by
 obtain ⟨x, hx, hd⟩ := List.any_eq_true.1 ho
 exact ⟨x, hx, of_decide_eq_true hd⟩
def sgT3 (x : Int × ByteArray) (lev : Nat) : Bool :=
 (([0, 1, 3, 4, 5] : List Nat).all fun l => l ≤ lev || !((sgs l).any fun y => decide (x.1 = y.1 ∧ x.2 = y.2))) && !decide (x.1 = 4 ∧ x.2 = atB) && !decide (x.1 = 5 ∧ x.2 = b2 58 58)
theorem sgT3_all : (([0, 1, 3, 4, 5] : List Nat).all fun lev => (sgs lev).all fun x => sgT3 x lev) = true := by decide +kernel
theorem sok_op {p o : Tk} {lev : Nat} (hv : lev = 0 ∨ lev = 1 ∨ lev = 3 ∨ lev = 4 ∨ lev = 5) (ho : isT o (sgs lev) = true) (h2 : isT p [(4, notB)] = false) (h6 : isT p [(5, b1 45)] = false) (l : Nat) (hl : lev < l) : SOk l p o := by
 obtain ⟨x, hx, e1, e2⟩ := sgs_get ho
 have h3 : sgT3 x lev = true := by
  have := List.all_eq_true.1 sgT3_all lev (by rcases hv with rfl | rfl | rfl | rfl | rfl <;> simp)
  exact List.all_eq_true.1 this x hx
 unfold sgT3 at h3
 rw [Bool.and_eq_true, Bool.and_eq_true] at h3
 obtain ⟨⟨a1, a2⟩, a3⟩ := h3
 refine ⟨fun h => ?_, fun _ => h2, fun _ => h6, fun _ => ?_, fun _ => ?_⟩
 ·have := List.all_eq_true.1 a1 l (by rcases h with rfl | rfl | rfl | rfl | rfl <;> simp)
  rw [Bool.or_eq_true, decide_eq_true_eq] at this
  rcases this with z | z
  ·omega
  ·unfold isT; rw [e1, e2]; simpa using z
 ·rw [isT_one, e1, e2]; rw [Bool.not_eq_true'] at a2; exact a2
 ·rw [isT_one, e1, e2]; rw [Bool.not_eq_true'] at a3; exact a3
def Hd (L : List Tk) : Prop := ∃ p l, L = p :: l ∧ isT p [(4, notB)] = false ∧ isT p [(5, b1 45)] = false ∧ isT p [(5, b1 41)] = false
theorem hd_l {p : Tk} (h : isL p) : isT p [(4, notB)] = false ∧ isT p [(5, b1 45)] = false ∧ isT p [(5, b1 41)] = false := by
 rw [isT_sign h, isT_sign h, isT_sign h]; decide +kernel
theorem hd_free {p : Tk} (h : free p = true) : isT p [(4, notB)] = false ∧ isT p [(5, b1 45)] = false ∧ isT p [(5, b1 41)] = false := by
 unfold free at h
 rw [Bool.and_eq_true, decide_eq_true_eq] at h
 refine ⟨?_, by simp [isT, h.2], by simp [isT, h.2]⟩
 rw [isT_one]
 apply decide_eq_false
 rintro ⟨-, e⟩
 rw [e] at h
 exact absurd h.1 (by decide +kernel)
theorem typ_free {p : Tk} (h1 : p.1 = 4) (h : typB p.2.1 = true) : free p = true := by
 unfold typB at h
 simp only [Bool.or_eq_true, decide_eq_true_eq] at h
 unfold free
 rw [h1]
 rcases h with ((h | h) | h) | h <;> rw [h] <;> decide +kernel
theorem free_no {p : Tk} (h : free p = true) : p.1 = 4 ∧ isT p [(4, trueB), (4, falseB)] = false ∧ isT p [(5, b1 40)] = false := by
  have h0 := h
  unfold free at h
  rw [Bool.and_eq_true, decide_eq_true_eq] at h
  refine ⟨h.2, ?_, by simp [isT, h.2]⟩
  rw [isT_two]
  rw [Bool.or_eq_false_iff]
  refine ⟨decide_eq_false ?_, decide_eq_false ?_⟩ <;>
    (rintro ⟨-, e⟩
     rw [e] at h
     exact absurd h.1 (by decide +kernel))
def RK (ks : List Nd) (L Q : List Tk) (d : Nat) : Prop := ∀ (f : Nat) (acc : List Nd), 10 * (L.length + Q.length) + 11 ≤ f → (∃ ls, par f (.ks acc) d (L ++ Q) = .ok (.mk 9 ByteArray.empty (acc ++ ls) 0) (Q.drop 1) ∧ F2 (AlP false) ls ks) ∨ ∃ a, par f (.ks acc) d (L ++ Q) = .no a 31
theorem rk_one {x : Nd} {L Q : List Tk} {r : Tk} {d : Nat} (hr : isR r) (hd : Hd L) (h : RBL x L (r :: Q) d 0) : RK [x] L (r :: Q) d := by
 intro f acc hf
 obtain ⟨p, l, rfl, -, -, -⟩ := hd
 simp only [zl] at hf
 obtain ⟨f, rfl⟩ : ∃ f', f = f' + 1 := ⟨f - 1, by omega⟩
 have h1 := h f (by simp only [zl]; omega)
 have e44 : isT r [(5, b1 44)] = false := by rw [isT_sign hr]; decide +kernel
 have e41 : isT r [(5, b1 41)] = true := by rw [isT_sign hr]; decide +kernel
 rw [List.cons_append] at h1 ⊢
 rw [par_succ]; unfold pst; dsimp only
 rcases h1 with ⟨x', e, ha⟩ | ⟨a, e⟩
 ·rw [e]; dsimp only; rw [if_neg (by simp [e44]), if_pos e41]
  exact .inl ⟨[x'], rfl, .cons ha .nil⟩
 ·rw [e]; exact .inr ⟨a, rfl⟩
theorem rk_more {x y : Nd} {ks : List Nd} {L M Q : List Tk} {c : Tk} {d : Nat} (hc : c.1 = 5 ∧ c.2.1 = b1 44) (hd : Hd L) (h : RBL x L (c :: (M ++ Q)) d 0) (hk : RK (y :: ks) M Q d) : RK (x :: y :: ks) (L ++ c :: M) Q d := by
 intro f acc hf
 obtain ⟨p, l, rfl, -, -, -⟩ := hd
 simp only [List.length_append, zl] at hf
 obtain ⟨f, rfl⟩ : ∃ f', f = f' + 1 := ⟨f - 1, by omega⟩
 have h1 := h f (by simp only [List.length_append, zl]; omega)
 have e44 : isT c [(5, b1 44)] = true := by rw [isT_sign hc]; decide +kernel
 have e : (p :: l ++ c :: M) ++ Q = p :: (l ++ c :: (M ++ Q)) := by simp
 rw [List.cons_append] at h1
 rw [e, par_succ]; unfold pst; dsimp only
 rcases h1 with ⟨x', e1, ha⟩ | ⟨a, e1⟩
 ·rw [e1]; dsimp only; rw [if_pos e44]
  rcases hk f (acc ++ [x']) (by omega) with ⟨ls, e2, hl⟩ | ⟨a, e2⟩
  ·rw [e2]; exact .inl ⟨x' :: ls, by simp, .cons ha hl⟩
  ·rw [e2]; exact .inr ⟨a, rfl⟩
 ·rw [e1]; exact .inr ⟨a, rfl⟩
theorem rb_call {ks : List Nd} {p l r : Tk} {L Q : List Tk} {d : Nat} {at_ : Int} (hd20 : d ≤ 20) (hp : free p = true) (hl : isL l) (hL : Hd L) (hk : d < 20 → RK ks L (r :: Q) (d + 1)) : RBL (.mk 9 p.2.1 ks at_) (p :: l :: L ++ [r]) Q d 9 := by
 intro f hf
 simp only [List.length_append, zl, List.length_nil] at hf
 obtain ⟨f, rfl⟩ : ∃ f', f = f' + 1 := ⟨f - 1, by omega⟩
 obtain ⟨u, L', rfl, -, -, hu⟩ := hL
 have e : (p :: l :: (u :: L') ++ [r]) ++ Q = p :: l :: u :: (L' ++ r :: Q) := by simp
 obtain ⟨p4, p5, p6⟩ := free_no hp
 have l40 : isT l [(5, b1 40)] = true := by simp [isT, hl.1, hl.2]
 rw [e, par_succ]; unfold pst; dsimp only
 rw [if_neg (by omega), if_neg (by omega), if_neg (by omega), if_neg (by omega), if_neg (by omega), if_pos rfl, if_neg (by omega), if_neg (by omega), if_neg (by omega), if_neg (by simp [p5]), if_neg (by simp [p6]), if_pos hp, if_neg (fun z => by have := hl.1; omega), if_pos l40]
 by_cases h20 : d = 20
 ·rw [if_pos h20]; exact .inr ⟨_, rfl⟩
 rw [if_neg h20, if_neg (by simp [hu])]
 have h1 := hk (by omega) f [] (by simp only [zl] at hf ⊢; omega)
 rw [List.cons_append] at h1
 rcases h1 with ⟨ls, e1, hl⟩ | ⟨a, e1⟩
 ·rw [e1]; dsimp only
  exact .inl ⟨_, rfl, .mk _ _ _ _ _ _ hl (fun z => by cases z)⟩
 ·rw [e1]; exact .inr ⟨a, rfl⟩
theorem rb_leaf {n : Nd} {p : Tk} {Q : List Tk} {d : Nat} (h : ∀ r, pst r (.lv 9) d (p :: Q) = .ok n Q) {m : Nd} (ha : AlP false n m) : RBL m [p] Q d 9 := by
 intro f hf
 simp only [zl, List.length_nil] at hf
 obtain ⟨f, rfl⟩ : ∃ f', f = f' + 1 := ⟨f - 1, by omega⟩
 rw [par_succ]
 exact .inl ⟨n, h _, ha⟩
theorem alp_leaf (k : Int) (t : ByteArray) (a b : Int) : AlP false (.mk k t [] a) (.mk k t [] b) := .mk _ _ _ _ _ _ .nil (fun z => by cases z)
theorem nt_read (N : Nat) : ∀ (n : Nd) (L : List Tk), L.length ≤ N → NT n L → Hd L ∧ ∀ (q : Tk) (Q : List Tk) (d : Nat), d ≤ 20 → RBL n L (q :: Q) d 9 := by
  induction N with
  | zero => intro n L hN h; cases h <;> simp at hN
  | succ N ih =>
    have ihk : ∀ (ks : List Nd) (L : List Tk), L.length ≤ N → KT ks L → Hd L ∧ ∀ (r : Tk) (Q : List Tk) (d : Nat), isR r → d ≤ 20 → RK ks L (r :: Q) d := by
      intro ks
      induction ks with
      | nil => intro L hN h; cases h
      | cons x ks ik =>
        intro L hN h
        cases h with
        | one _ _ h =>
          obtain ⟨hd, hr⟩ := ih x L hN h
          refine ⟨hd, fun r Q d hR h20 => rk_one hR hd ?_⟩
          obtain ⟨p, l, rfl, k1, k2, k3⟩ := hd
          exact rb_ups 9 0 (by omega) (fun l _ _ => sok_end (.inl rfl) hR k1 k2 l) (hr r Q d h20)
        | more _ y ks c L M hc h hk =>
          simp only [List.length_append, zl] at hN
          obtain ⟨hd, hr⟩ := ih x L (by omega) h
          obtain ⟨hd2, hr2⟩ := ik M (by omega) hk
          have hd0 := hd
          obtain ⟨p, l, rfl, k1, k2, k3⟩ := hd
          refine ⟨⟨p, l ++ c :: M, by simp, k1, k2, k3⟩, fun r Q d hR h20 => rk_more hc hd0 ?_ (hr2 r Q d hR h20)⟩
          exact rb_ups 9 0 (by omega) (fun l _ _ => sok_end (.inr rfl) hc k1 k2 l) (hr c _ d h20)
    intro n L hN h
    cases h with
    | num p a h =>
      refine ⟨⟨p, [], rfl, by simp [isT, h], by simp [isT, h], by simp [isT, h]⟩, fun q Q d hd => rb_leaf (n := .mk 1 p.2.1 [] p.2.2) (fun r => ?_) (alp_leaf _ _ _ _)⟩
      unfold pst; dsimp only
      simp [h]
    | dec p a h =>
      refine ⟨⟨p, [], rfl, by simp [isT, h], by simp [isT, h], by simp [isT, h]⟩, fun q Q d hd => rb_leaf (n := .mk 2 p.2.1 [] p.2.2) (fun r => ?_) (alp_leaf _ _ _ _)⟩
      unfold pst; dsimp only
      simp [h]
    | txt p a h =>
      refine ⟨⟨p, [], rfl, by simp [isT, h], by simp [isT, h], by simp [isT, h]⟩, fun q Q d hd => rb_leaf (n := .mk 3 p.2.1 [] p.2.2) (fun r => ?_) (alp_leaf _ _ _ _)⟩
      unfold pst; dsimp only
      simp [h]
    | tf p a h h2 =>
      have h4 : isT p [(4, trueB), (4, falseB)] = true := by rw [isT_two, h]; rcases h2 with e | e <;> rw [e] <;> decide +kernel
      refine ⟨⟨p, [], rfl, ?_, by simp [isT, h], by simp [isT, h]⟩, fun q Q d hd => rb_leaf (n := .mk 4 p.2.1 [] p.2.2) (fun r => ?_) (alp_leaf _ _ _ _)⟩
      · rw [isT_one]; rcases h2 with e | e <;> rw [e] <;> exact decide_eq_false (fun z => absurd z.2 (by decide +kernel))
      · unfold pst; dsimp only
        rw [if_neg (by omega), if_neg (by omega), if_neg (by omega), if_neg (by omega), if_neg (by omega), if_pos rfl, if_neg (by omega), if_neg (by omega), if_neg (by omega), if_pos h4]
    | lit p u a b h h2 h3 =>
      have hf := typ_free h h2
      obtain ⟨p4, p5, p6⟩ := free_no hf
      refine ⟨⟨p, [u], rfl, (hd_free hf).1, (hd_free hf).2.1, (hd_free hf).2.2⟩, fun q Q d hd f hff => ?_⟩
      simp only [zl, List.length_nil] at hff
      obtain ⟨f, rfl⟩ : ∃ f', f = f' + 1 := ⟨f - 1, by omega⟩
      have e : [p, u] ++ q :: Q = p :: u :: q :: Q := rfl
      rw [e, par_succ]; unfold pst; dsimp only
      rw [if_neg (by omega), if_neg (by omega), if_neg (by omega), if_neg (by omega), if_neg (by omega), if_pos rfl, if_neg (by omega), if_neg (by omega), if_neg (by omega), if_neg (by simp [p5]), if_neg (by simp [p6]), if_pos hf, if_pos ⟨h3, h2⟩]
      exact .inl ⟨_, rfl, .mk _ _ _ _ _ _ (.cons (alp_leaf _ _ _ _) .nil) (fun z => by cases z)⟩
    | neg l m r a x M hl hm hr h =>
      simp only [List.length_append, zl, List.length_nil] at hN
      obtain ⟨hd, hx⟩ := ih x M (by omega) h
      refine ⟨⟨l, _, rfl, hd_l hl⟩, fun q Q d h20 => rb_br h20 hl hr (fun hd2 => ?_)⟩
      obtain ⟨p, M', rfl, k1, k2, k3⟩ := hd
      have m2 : isT m [(4, notB)] = false := by simp [isT, hm.1]
      have m6 : isT m [(5, b1 45)] = true := by simp [isT, hm.1, hm.2]
      refine rb_ups 6 0 (by omega) (fun l _ hl6 => ?_) (rb_un (k := 6) (.inl ⟨rfl, rfl, m6⟩) (by omega) (fun hd3 => rb_ups 3 6 (by omega) (fun l _ _ => sok_end (.inl rfl) hr k1 k2 l) (hx r (q :: Q) (d + 1 + 1) (by omega))))
      obtain ⟨s1, -, -, s4, s5⟩ := sok_end (p := p) (.inl rfl) hr k1 k2 l
      exact ⟨s1, fun _ => m2, fun z => by omega, s4, s5⟩
    | not l m r a x M hl hm hr h =>
      simp only [List.length_append, zl, List.length_nil] at hN
      obtain ⟨hd, hx⟩ := ih x M (by omega) h
      refine ⟨⟨l, _, rfl, hd_l hl⟩, fun q Q d h20 => rb_br h20 hl hr (fun hd2 => ?_)⟩
      obtain ⟨p, M', rfl, k1, k2, k3⟩ := hd
      have m2 : isT m [(4, notB)] = true := by simp [isT, hm.1, hm.2]
      refine rb_ups 2 0 (by omega) (fun l _ hl6 => ?_) (rb_un (k := 2) (.inr ⟨rfl, rfl, m2⟩) (by omega) (fun hd3 => rb_ups 7 2 (by omega) (fun l _ _ => sok_end (.inl rfl) hr k1 k2 l) (hx r (q :: Q) (d + 1 + 1) (by omega))))
      obtain ⟨s1, -, -, s4, s5⟩ := sok_end (p := p) (.inl rfl) hr k1 k2 l
      exact ⟨s1, fun z => by omega, fun z => by omega, s4, s5⟩
    | op l o r a lev x y M K hl hv ho hr h h2 =>
      simp only [List.length_append, zl, List.length_nil] at hN
      obtain ⟨hd, hx⟩ := ih x M (by omega) h
      obtain ⟨hd2, hy⟩ := ih y K (by omega) h2
      refine ⟨⟨l, _, rfl, hd_l hl⟩, fun q Q d h20 => rb_br h20 hl hr (fun hd3 => ?_)⟩
      obtain ⟨p, M', rfl, k1, k2, k3⟩ := hd
      obtain ⟨p2, K', rfl, j1, j2, j3⟩ := hd2
      have hrl : isT r (sgs lev) = false := (sok_end (p := p) (.inl rfl) hr k1 k2 lev).1 hv
      refine rb_ups lev 0 (by omega) (fun l _ _ => sok_end (.inl rfl) hr k1 k2 l) ?_
      rw [Nat.zero_add]
      refine rb_op hv ho hrl ?_ ?_
      · have := rb_ups (8 - lev) (lev + 1) (by omega) (fun l hl1 _ => sok_op (o := o) hv ho k1 k2 l (by omega)) (by rw [show lev + 1 + (8 - lev) = 9 by omega]; exact hx o ((p2 :: K') ++ r :: q :: Q) (d + 1) (by omega))
        exact this
      · exact rb_ups (8 - lev) (lev + 1) (by omega) (fun l _ _ => sok_end (.inl rfl) hr j1 j2 l) (by rw [show lev + 1 + (8 - lev) = 9 by omega]; exact hy r (q :: Q) (d + 1) (by omega))
    | at_ l o u z r a x y M K hl ho hu hz hr h h2 =>
      simp only [List.length_append, zl, List.length_nil] at hN
      obtain ⟨hd, hx⟩ := ih x M (by omega) h
      obtain ⟨hd2, hy⟩ := ih y K (by omega) h2
      refine ⟨⟨l, _, rfl, hd_l hl⟩, fun q Q d h20 => rb_br h20 hl hr (fun hd3 => ?_)⟩
      obtain ⟨p, M', rfl, k1, k2, k3⟩ := hd
      obtain ⟨p2, K', rfl, j1, j2, j3⟩ := hd2
      refine rb_ups 7 0 (by omega) (fun l _ _ => sok_end (.inl rfl) hr k1 k2 l) ?_
      rw [Nat.zero_add]
      have ho5 : isT o [(5, b2 58 58)] = false := by
        rw [isT_one, decide_eq_true_eq] at ho
        simp [isT, ho.1]
      refine rb_at ho hu hz ((sok_end (p := p) (.inl rfl) hr k1 k2 7).2.2.2.1 rfl) ?_ ?_
      · exact rb_ups 1 8 (by omega) (fun l a b => by obtain rfl : l = 8 := by omega
                                                     exact ⟨fun z => by omega, fun z => by omega, fun z => by omega, fun z => by omega, fun _ => ho5⟩) (hx o (u :: z :: ((p2 :: K') ++ r :: q :: Q)) (d + 1) (by omega))
      · exact rb_ups 1 8 (by omega) (fun l _ _ => sok_end (.inl rfl) hr j1 j2 l) (hy r (q :: Q) (d + 1) (by omega))
    | call0 p l r a h hl hr =>
      obtain ⟨p4, p5, p6⟩ := free_no h
      refine ⟨⟨p, _, rfl, hd_free h⟩, fun q Q d h20 f hf => ?_⟩
      simp only [zl, List.length_nil] at hf
      obtain ⟨f, rfl⟩ : ∃ f', f = f' + 1 := ⟨f - 1, by omega⟩
      have l40 : isT l [(5, b1 40)] = true := by simp [isT, hl.1, hl.2]
      have r41 : isT r [(5, b1 41)] = true := by simp [isT, hr.1, hr.2]
      have e : [p, l, r] ++ q :: Q = p :: l :: r :: q :: Q := rfl
      rw [e, par_succ]; unfold pst; dsimp only
      rw [if_neg (by omega), if_neg (by omega), if_neg (by omega), if_neg (by omega), if_neg (by omega), if_pos rfl, if_neg (by omega), if_neg (by omega), if_neg (by omega), if_neg (by simp [p5]), if_neg (by simp [p6]), if_pos h, if_neg (fun z => by have := hl.1; omega), if_pos l40]
      by_cases hd : d = 20
      · rw [if_pos hd]; exact .inr ⟨_, rfl⟩
      rw [if_neg hd, if_pos r41]
      exact .inl ⟨_, rfl, alp_leaf _ _ _ _⟩
    | call p l r a ks M h hl hr hk =>
      simp only [List.length_append, zl, List.length_nil] at hN
      obtain ⟨hd, hx⟩ := ihk ks M (by omega) hk
      exact ⟨⟨p, _, rfl, hd_free h⟩, fun q Q d h20 => rb_call h20 h hl hd (fun hd2 => hx r (q :: Q) (d + 1) hr (by omega))⟩
    | cast l o t r a x M hl ho ht hr h =>
      simp only [List.length_append, zl, List.length_nil] at hN
      obtain ⟨hd, hx⟩ := ih x M (by omega) h
      refine ⟨⟨l, _, rfl, hd_l hl⟩, fun q Q d h20 => rb_br h20 hl hr (fun hd2 => ?_)⟩
      obtain ⟨p, M', rfl, k1, k2, k3⟩ := hd
      refine rb_ups 8 0 (by omega) (fun l _ _ => sok_end (.inl rfl) hr k1 k2 l) ?_
      rw [Nat.zero_add]
      exact rb_cast ho ht ((sok_end (p := p) (.inl rfl) hr k1 k2 8).2.2.2.2 rfl) (hx o (t :: r :: q :: Q) (d + 1) (by omega))
inductive Wf (P : Int → ByteArray → Prop) : Nd → Prop where
 | leaf (k : Int) (t : ByteArray) (a : Int) (hk : k = 1 ∨ k = 2 ∨ k = 3) (h : P k t) : Wf P (.mk k t [] a)
 | tf (t : ByteArray) (a : Int) (h : t = trueB ∨ t = falseB) : Wf P (.mk 4 t [] a)
 | lit (t u : ByteArray) (a b : Int) (ht : typB t = true) (hu : P 3 u) : Wf P (.mk 5 t [.mk 3 u [] b] a)
 | neg (x : Nd) (a : Int) (h : Wf P x) : Wf P (.mk 6 ⟨#[]⟩ [x] a)
 | not (x : Nd) (a : Int) (h : Wf P x) : Wf P (.mk 7 ⟨#[]⟩ [x] a)
 | op (lev : Nat) (k : Int) (o : ByteArray) (x y : Nd) (a : Int) (hv : lev = 0 ∨ lev = 1 ∨ lev = 3 ∨ lev = 4 ∨ lev = 5) (ho : (k, o) ∈ sgs lev) (h : Wf P x) (h2 : Wf P y) : Wf P (.mk 8 o [x, y] a)
 | at_ (x y : Nd) (a : Int) (h : Wf P x) (h2 : Wf P y) : Wf P (.mk 8 atzB [x, y] a)
 | call (t : ByteArray) (ks : List Nd) (a : Int) (hr : rsvd t = false) (ht : P 4 t) (hk : ∀ n ∈ ks, Wf P n) : Wf P (.mk 9 t ks a)
 | cast (t : ByteArray) (x : Nd) (a : Int) (hr : rsvd t = false) (ht : P 4 t) (h : Wf P x) : Wf P (.mk 10 t [x] a)
theorem free_two {p : Tk} (h : free p = true) : rsvd p.2.1 = false ∧ p.1 = 4 := by
 unfold free at h; rw [Bool.and_eq_true, decide_eq_true_eq, Bool.not_eq_true'] at h; exact h
theorem sgs_lev (lev : Nat) : ∃ m, (m = 0 ∨ m = 1 ∨ m = 3 ∨ m = 4 ∨ m = 5) ∧ sgs lev = sgs m := by
 match lev with
 | 0 => exact ⟨0, by simp, rfl⟩
 | 1 => exact ⟨1, by simp, rfl⟩
 | 2 => exact ⟨5, by simp, rfl⟩
 | 3 => exact ⟨3, by simp, rfl⟩
 | 4 => exact ⟨4, by simp, rfl⟩
 | _ + 5 => exact ⟨5, by simp, rfl⟩
theorem wf_op {P : Int → ByteArray → Prop} {q : Tk} {lev : Nat} (h : isT q (sgs lev) = true) {x y : Nd} (a : Int) (hx : Wf P x) (hy : Wf P y) : Wf P (.mk 8 q.2.1 [x, y] a) := by
 obtain ⟨m, hm, e⟩ := sgs_lev lev
 rw [e] at h
 obtain ⟨⟨k, o⟩, hk, e1, e2⟩ := sgs_get h
 dsimp only at e1 e2
 rw [e2]
 exact .op m k o x y a hm hk hx hy
theorem wf_tf {P : Int → ByteArray → Prop} {p : Tk} (h : isT p [(4, trueB), (4, falseB)] = true) (a : Int) : Wf P (.mk 4 p.2.1 [] a) := by
 rw [isT_two, Bool.or_eq_true, decide_eq_true_eq, decide_eq_true_eq] at h
 exact .tf _ _ (h.elim (fun z => .inl z.2) (fun z => .inr z.2))
def WfP (P : Int → ByteArray → Prop) (p : Tk) : Prop := P p.1 p.2.1
def WfT (P : Int → ByteArray → Prop) : Tg → Prop
 | .lv _ => True
 | .lp _ n => Wf P n
 | .zs n => Wf P n
 | .cs n => Wf P n
 | .ks acc => ∀ n ∈ acc, Wf P n
def WfK (P : Int → ByteArray → Prop) : Tg → Nd → Prop
 | .ks _, n => ∀ m ∈ n.ks, Wf P m
 | _, n => Wf P n
def WfR (P : Int → ByteArray → Prop) (g : Tg) : PR → Prop
 | .no _ _ => True
 | .ok n l1 => WfK P g n ∧ ∀ t ∈ l1, WfP P t
def WfI (P : Int → ByteArray → Prop) (r : Tg → Nat → List Tk → PR) : Prop := ∀ g d L, WfT P g → (∀ t ∈ L, WfP P t) → WfR P g (r g d L)
theorem WfI.ok {P : Int → ByteArray → Prop} {r : Tg → Nat → List Tk → PR} (H : WfI P r) {g : Tg} {d : Nat} {L : List Tk} {n : Nd} {l1 : List Tk} (hg : WfT P g) (hL : ∀ t ∈ L, WfP P t) (h : r g d L = .ok n l1) : WfK P g n ∧ ∀ t ∈ l1, WfP P t := by
 have := H g d L hg hL; rw [h] at this; exact this
theorem WfI.lv {P : Int → ByteArray → Prop} {r : Tg → Nat → List Tk → PR} (H : WfI P r) {lev d : Nat} {L : List Tk} {n : Nd} {l1 : List Tk} (hL : ∀ t ∈ L, WfP P t) (h : r (.lv lev) d L = .ok n l1) : Wf P n ∧ ∀ t ∈ l1, WfP P t := H.ok (g := .lv lev) trivial hL h
theorem pst_wf {P : Int → ByteArray → Prop} {r : Tg → Nat → List Tk → PR} (H : WfI P r) : WfI P (pst r) := by
 intro g d L hg hL
 cases hR : pst r g d L with
 | no a e => trivial
 | ok n l1 =>
  have h := hR
  clear hR
  show WfK P g n ∧ ∀ t ∈ l1, WfP P t
  cases L with
  | nil => cases g <;> cases h
  | cons p l =>
   have hp := hL p (by simp)
   have hl : ∀ t ∈ l, WfP P t := fun t ht => hL t (by simp [ht])
   cases g with
   | lv lev =>
    unfold pst at h; dsimp only at h
    by_cases h2 : lev = 2
    ·rw [if_pos h2] at h
     by_cases hq : isT p [(4, notB)] = true
     ·rw [if_pos hq] at h
      by_cases hd : d = 20
      ·rw [if_pos hd] at h; cases h
      rw [if_neg hd] at h
      cases hr : r (.lv 2) (d + 1) l with
      | no a e => rw [hr] at h; cases h
      | ok n1 l2 =>
       rw [hr] at h; cases h
       obtain ⟨q1, q3⟩ := H.lv hl hr
       exact ⟨.not _ _ q1, q3⟩
     ·rw [if_neg hq] at h
      obtain ⟨q1, q3⟩ := H.lv hL h
      exact ⟨q1, q3⟩
    rw [if_neg h2] at h
    by_cases h6 : lev = 6
    ·rw [if_pos h6] at h
     by_cases hq : isT p [(5, b1 45)] = true
     ·rw [if_pos hq] at h
      by_cases hd : d = 20
      ·rw [if_pos hd] at h; cases h
      rw [if_neg hd] at h
      cases hr : r (.lv 6) (d + 1) l with
      | no a e => rw [hr] at h; cases h
      | ok n1 l2 =>
       rw [hr] at h; cases h
       obtain ⟨q1, q3⟩ := H.lv hl hr
       exact ⟨.neg _ _ q1, q3⟩
     ·rw [if_neg hq] at h
      obtain ⟨q1, q3⟩ := H.lv hL h
      exact ⟨q1, q3⟩
    rw [if_neg h6] at h
    by_cases h3 : lev = 3
    ·rw [if_pos h3] at h
     cases hr : r (.lv 4) d (p :: l) with
     | no a e => rw [hr] at h; cases h
     | ok n1 l2 =>
      rw [hr] at h
      obtain ⟨q1, q3⟩ := H.lv hL hr
      dsimp only at h
      cases l2 with
      | nil => cases h
      | cons q l2 =>
       unfold cmpK at h
       dsimp only at h
       by_cases hq : isT q (sgs 3) = true
       ·rw [if_pos hq] at h
        cases hr2 : r (.lv 4) d l2 with
        | no a e => rw [hr2] at h; cases h
        | ok n2 l3 =>
         rw [hr2] at h; cases h
         obtain ⟨u1, u3⟩ := H.lv (fun t ht => q3 t (by simp [ht])) hr2
         exact ⟨wf_op hq _ q1 u1, u3⟩
       ·rw [if_neg hq] at h; cases h; exact ⟨q1, q3⟩
    rw [if_neg h3] at h
    by_cases h7 : lev = 7
    ·rw [if_pos h7] at h
     cases hr : r (.lv 8) d (p :: l) with
     | no a e => rw [hr] at h; cases h
     | ok n1 l2 =>
      rw [hr] at h
      obtain ⟨q1, q3⟩ := H.lv hL hr
      obtain ⟨u1, u3⟩ := H.ok (show WfT P (.zs n1) from q1) q3 h
      exact ⟨u1, u3⟩
    rw [if_neg h7] at h
    by_cases h8 : lev = 8
    ·rw [if_pos h8] at h
     cases hr : r (.lv 9) d (p :: l) with
     | no a e => rw [hr] at h; cases h
     | ok n1 l2 =>
      rw [hr] at h
      obtain ⟨q1, q3⟩ := H.lv hL hr
      obtain ⟨u1, u3⟩ := H.ok (show WfT P (.cs n1) from q1) q3 h
      exact ⟨u1, u3⟩
    rw [if_neg h8] at h
    by_cases h9 : lev = 9
    ·rw [if_pos h9] at h
     by_cases p1 : p.1 = 1
     ·rw [if_pos p1] at h; cases h; exact ⟨.leaf 1 _ _ (by omega) (by rw [← p1]; exact hp), hl⟩
     rw [if_neg p1] at h
     by_cases p2 : p.1 = 2
     ·rw [if_pos p2] at h; cases h; exact ⟨.leaf 2 _ _ (by omega) (by rw [← p2]; exact hp), hl⟩
     rw [if_neg p2] at h
     by_cases p3 : p.1 = 3
     ·rw [if_pos p3] at h; cases h; exact ⟨.leaf 3 _ _ (by omega) (by rw [← p3]; exact hp), hl⟩
     rw [if_neg p3] at h
     by_cases p4 : isT p [(4, trueB), (4, falseB)] = true
     ·rw [if_pos p4] at h; cases h; exact ⟨wf_tf p4 _, hl⟩
     rw [if_neg p4] at h
     by_cases p5 : isT p [(5, b1 40)] = true
     ·rw [if_pos p5] at h
      by_cases hd : d = 20
      ·rw [if_pos hd] at h; cases h
      rw [if_neg hd] at h
      cases hr : r (.lv 0) (d + 1) l with
      | no a e => rw [hr] at h; cases h
      | ok n1 l2 =>
       rw [hr] at h
       obtain ⟨q1, q3⟩ := H.lv hl hr
       cases l2 with
       | nil => cases h
       | cons q l2 =>
        dsimp only at h
        by_cases hq : isT q [(5, b1 41)] = true
        ·rw [if_pos hq] at h; cases h; exact ⟨q1, fun t ht => q3 t (by simp [ht])⟩
        ·rw [if_neg hq] at h; cases h
     rw [if_neg p5] at h
     by_cases p6 : free p = true
     ·rw [if_pos p6] at h
      cases l with
      | nil => cases h
      | cons q l2 =>
       dsimp only at h
       have hq := hl q (by simp)
       have hl2 : ∀ t ∈ l2, WfP P t := fun t ht => hl t (by simp [ht])
       by_cases q1 : q.1 = 3 ∧ typB p.2.1 = true
       ·rw [if_pos q1] at h; cases h; exact ⟨.lit _ _ _ _ q1.2 (by rw [← q1.1]; exact hq), hl2⟩
       rw [if_neg q1] at h
       by_cases q2 : isT q [(5, b1 40)] = true
       ·rw [if_pos q2] at h
        by_cases hd : d = 20
        ·rw [if_pos hd] at h; cases h
        rw [if_neg hd] at h
        cases l2 with
        | nil => cases h
        | cons u l3 =>
         dsimp only at h
         by_cases hu : isT u [(5, b1 41)] = true
         ·rw [if_pos hu] at h; cases h; exact ⟨.call _ [] _ (free_two p6).1 (by rw [← (free_two p6).2]; exact hp) (by simp), fun t ht => hl2 t (by simp [ht])⟩
         rw [if_neg hu] at h
         cases hr : r (.ks []) (d + 1) (u :: l3) with
         | no a e => rw [hr] at h; cases h
         | ok n1 l4 =>
          rw [hr] at h; cases h
          obtain ⟨u1, u3⟩ := H.ok (show WfT P (.ks []) from (fun _ z => by cases z)) hl2 hr
          exact ⟨.call _ _ _ (free_two p6).1 (by rw [← (free_two p6).2]; exact hp) u1, u3⟩
       ·rw [if_neg q2] at h; cases h
     ·rw [if_neg p6] at h; cases h
    rw [if_neg h9] at h
    cases hr : r (.lv (lev + 1)) d (p :: l) with
    | no a e => rw [hr] at h; cases h
    | ok n1 l2 =>
     rw [hr] at h
     obtain ⟨q1, q3⟩ := H.lv hL hr
     obtain ⟨u1, u3⟩ := H.ok (show WfT P (.lp lev n1) from q1) q3 h
     exact ⟨u1, u3⟩
   | lp lev m =>
    unfold pst at h; dsimp only at h
    by_cases hq : isT p (sgs lev) = true
    ·rw [if_pos hq] at h
     cases hr : r (.lv (lev + 1)) d l with
     | no a e => rw [hr] at h; cases h
     | ok n1 l2 =>
      rw [hr] at h
      obtain ⟨q1, q3⟩ := H.lv hl hr
      obtain ⟨u1, u3⟩ := H.ok (show WfT P (.lp lev _) from wf_op hq _ hg q1) q3 h
      exact ⟨u1, u3⟩
    ·rw [if_neg hq] at h; cases h; exact ⟨hg, hL⟩
   | zs m =>
    unfold pst at h; dsimp only at h
    by_cases hq : isT p [(4, atB)] = true
    ·rw [if_pos hq] at h
     cases l with
     | nil => cases h
     | cons t l2 =>
      dsimp only at h
      by_cases ht : isT t [(4, timeB)] = true
      ·rw [if_pos ht] at h
       cases l2 with
       | nil => cases h
       | cons z l3 =>
        dsimp only at h
        by_cases hz : isT z [(4, zoneB)] = true
        ·rw [if_pos hz] at h
         cases hr : r (.lv 8) d l3 with
         | no a e => rw [hr] at h; cases h
         | ok n1 l4 =>
          rw [hr] at h
          obtain ⟨q1, q3⟩ := H.lv (fun x hx => hl x (by simp [hx])) hr
          obtain ⟨u1, u3⟩ := H.ok (show WfT P (.zs _) from .at_ _ _ _ hg q1) q3 h
          exact ⟨u1, u3⟩
        ·rw [if_neg hz] at h; cases h
      ·rw [if_neg ht] at h; cases h
    ·rw [if_neg hq] at h; cases h; exact ⟨hg, hL⟩
   | cs m =>
    unfold pst at h; dsimp only at h
    by_cases hq : isT p [(5, b2 58 58)] = true
    ·rw [if_pos hq] at h
     cases l with
     | nil => cases h
     | cons t l2 =>
      dsimp only at h
      by_cases ht : free t = true
      ·rw [if_pos ht] at h
       obtain ⟨u1, u3⟩ := H.ok (show WfT P (.cs _) from .cast _ _ _ (free_two ht).1 (by rw [← (free_two ht).2]; exact hl t (by simp)) hg) (fun x hx => hl x (by simp [hx])) h
       exact ⟨u1, u3⟩
      ·rw [if_neg ht] at h; cases h
    ·rw [if_neg hq] at h; cases h; exact ⟨hg, hL⟩
   | ks acc =>
    unfold pst at h; dsimp only at h
    cases hr : r (.lv 0) d (p :: l) with
    | no a e => rw [hr] at h; cases h
    | ok n1 l2 =>
     rw [hr] at h
     obtain ⟨q1, q3⟩ := H.lv hL hr
     have hacc : ∀ n ∈ acc ++ [n1], Wf P n := by
      intro n hn
      rcases List.mem_append.1 hn with z | z
      ·exact hg n z
      ·simp at z; subst z; exact q1
     cases l2 with
     | nil => cases h
     | cons q l2 =>
      dsimp only at h
      by_cases c1 : isT q [(5, b1 44)] = true
      ·rw [if_pos c1] at h
       obtain ⟨u1, u3⟩ := H.ok (show WfT P (.ks _) from hacc) (fun x hx => q3 x (by simp [hx])) h
       exact ⟨u1, u3⟩
      ·rw [if_neg c1] at h
       by_cases c2 : isT q [(5, b1 41)] = true
       ·rw [if_pos c2] at h; cases h; exact ⟨hacc, fun x hx => q3 x (by simp [hx])⟩
       ·rw [if_neg c2] at h; cases h
theorem par_wf (P : Int → ByteArray → Prop) : ∀ f : Nat, WfI P (par f)
 | 0 => fun g d L _ _ => trivial
 | f + 1 => pst_wf (par_wf P f)
theorem wf_sh {P : Int → ByteArray → Prop} {n : Nd} (h : Wf P n) : shN n = true := by
 induction h with
 | leaf k t a hk h => rw [shN, shL]; rcases hk with rfl | rfl | rfl <;> rfl
 | tf t a h => rw [shN, shL]; rfl
 | lit t u a b ht hu => rw [shN, shL, shL, shN, shL]; rfl
 | neg x a h ih => rw [shN, shL, shL, ih]; rfl
 | not x a h ih => rw [shN, shL, shL, ih]; rfl
 | op lev k o x y a hv ho h h2 ih ih2 => rw [shN, shL, shL, shL, ih, ih2]; rfl
 | at_ x y a h h2 ih ih2 => rw [shN, shL, shL, shL, ih, ih2]; rfl
 | call t ks a hr ht hk ih =>
  rw [shN, Bool.and_eq_true]
  refine ⟨by simp, ?_⟩
  clear hk
  induction ks with
  | nil => rw [shL]
  | cons x l il => rw [shL, ih x (by simp), il (fun n hn => ih n (by simp [hn]))]; rfl
 | cast t x a hr ht h ih => rw [shN, shL, shL, ih]; rfl
def Si (x : UInt8) : Prop := Bk 3 x ∧ x ≠ 39 ∧ x ≠ 46 ∧ x ≠ 58 ∧ x ≠ 60 ∧ x ≠ 61 ∧ x ≠ 62
theorem si_pr1 {x : UInt8} (h : Si x) (u : ByteArray) : isPr ((⟨#[x]⟩ : ByteArray) ++ u) = false := by
 have k : ∀ (y z : UInt8), y ≠ x → (⟨#[x]⟩ : ByteArray) ++ u ≠ ⟨#[y, z]⟩ := by
  intro y z h0 e
  have q := congrArg (fun b : ByteArray => b.data.toList.head?) e
  simp at q
  exact h0 q.symm
 obtain ⟨-, -, -, h1, h2, h3, h4⟩ := h
 unfold isPr
 simp only [Bool.or_eq_false_iff, decide_eq_false_iff_not]
 exact ⟨⟨⟨k _ _ (Ne.symm h2), k _ _ (Ne.symm h4)⟩, k _ _ (Ne.symm h2)⟩, k _ _ (Ne.symm h1)⟩
theorem si_pr2 {x : UInt8} (h : Si x) (u : ByteArray) : isPr (u ++ (⟨#[x]⟩ : ByteArray)) = false := by
 have k : ∀ (y z : UInt8), z ≠ x → u ++ (⟨#[x]⟩ : ByteArray) ≠ ⟨#[y, z]⟩ := by
  intro y z h0 e
  have q := congrArg (fun b : ByteArray => b.data.toList.getLast?) e
  simp at q
  exact h0 q.symm
 obtain ⟨-, -, -, h1, h2, h3, h4⟩ := h
 unfold isPr
 simp only [Bool.or_eq_false_iff, decide_eq_false_iff_not]
 exact ⟨⟨⟨k _ _ (Ne.symm h3), k _ _ (Ne.symm h3)⟩, k _ _ (Ne.symm h4)⟩, k _ _ (Ne.symm h1)⟩
theorem one_ne {x y : UInt8} (h : x ≠ y) : (⟨#[x]⟩ : ByteArray) ≠ ⟨#[y]⟩ := by
 intro e
 have q := congrArg (fun b : ByteArray => b.data.toList.head?) e
 simp at q
 exact h q
theorem low_said {x : UInt8} (k : Int) (h4 : k ≠ 4) (h3 : k ≠ 3) (t : ByteArray) : saidT k t = t := by
 unfold saidT; rw [if_neg h4, if_neg h3]
theorem txt_sg (x : UInt8) (c : ByteArray) (Q : List Prt) : texts ((⟨#[x]⟩ : ByteArray) ++ c) ((3, 0, 1) :: Q.map (sh 1)) = (3, ⟨#[x]⟩, 0) :: (texts c Q).map (shK 1) := by
 have := texts_right (⟨#[x]⟩ : ByteArray) c Q
 rw [one_size] at this
 rw [← this]
 unfold texts
 rw [List.map_cons]
 congr 1
 show (3, ((⟨#[x]⟩ : ByteArray) ++ c).extract 0 1, ((0 : Nat) : Int)) = _
 rw [ext_left _ _ _ _ (by rw [one_size]; omega)]
 have : (⟨#[x]⟩ : ByteArray).extract 0 1 = ⟨#[x]⟩ := by apply ByteArray.ext; simp
 rw [this]; rfl
theorem toks_si {x : UInt8} (hx : Si x) {c : ByteArray} {T : List Tk} (h : toksB c = .inr T) : toksB ((⟨#[x]⟩ : ByteArray) ++ c) = .inr ((5, ⟨#[x]⟩, 0) :: T.map (shK 1)) := by
 obtain ⟨P, hp, hf⟩ := toksB_get h
 refine toksB_of (splitB_sg hx.1 hp) ?_
 rw [txt_sg]
 have e2 : fstT (3, ⟨#[x]⟩, 0) ((texts c P).map (shK 1)) = (5, 1) := by
  unfold fstT
  have : qt (3, ⟨#[x]⟩, 0) = false := by unfold qt; exact decide_eq_false (one_ne hx.2.1)
  rw [this, if_neg (by simp), if_neg (by simp), if_pos rfl]
  have : prT (3, ⟨#[x]⟩, 0) ((texts c P).map (shK 1)) = false := by
   cases (texts c P).map (shK 1) with
   | nil => rfl
   | cons q l => rw [prT, si_pr1 hx]; simp
  rw [this]; rfl
 have e3 : tokT ((⟨#[x]⟩ : ByteArray) ++ c) (3, ⟨#[x]⟩, 0) ((texts c P).map (shK 1)) = (5, ⟨#[x]⟩, 0) := by
  unfold tokT
  rw [e2]
  show (5, saidT 5 (((⟨#[x]⟩ : ByteArray) ++ c).extract 0 1), 0) = _
  rw [low_said (x := x) 5 (by decide) (by decide), ext_left _ _ _ _ (by rw [one_size]; omega)]
  have : (⟨#[x]⟩ : ByteArray).extract 0 1 = ⟨#[x]⟩ := by apply ByteArray.ext; simp
  rw [this]
 rw [zl, List.length_map, toksF, e2, if_neg (by simp), e3]
 have := toks_right (⟨#[x]⟩ : ByteArray) c [(5, ⟨#[x]⟩, 0)] P.length P.length (texts c P) [] T 0 (Od_cov c P 0 _ (splitB_cov hp)) (by rw [texts_length]; omega) (by rw [texts_length]; omega) hf
 simpa [one_size] using this
theorem toks_bt {x : UInt8} (hx : Si x) {a c : ByteArray} {TA T : List Tk} (ha : toksB a = .inr (TA ++ [(0, ⟨#[]⟩, (a.size : Int))])) (hc : toksB c = .inr T) : toksB (a ++ ((⟨#[x]⟩ : ByteArray) ++ c)) = .inr (TA ++ ((5, ⟨#[x]⟩, 0) :: T.map (shK 1)).map (shK a.size)) := by
 obtain ⟨P, hp, -⟩ := toksB_get ha
 obtain ⟨Q, hq, -⟩ := toksB_get hc
 refine toks_app (.inl (kind_low hx.1 c)) hp (splitB_sg hx.1 hq) (fun p q h1 h2 => ?_) ha (toks_si hx hc)
 rw [txt_sg, List.map_cons] at h2
 simp only [List.head?_cons, Option.some.injEq] at h2
 subst h2
 refine ⟨?_, ?_, ?_, ?_⟩
 ·rw [qt_sh, show qt (3, ⟨#[x]⟩, 0) = false from decide_eq_false (one_ne hx.2.1)]; simp
 ·simp [shK]
 ·show (_ && isPr (p.2.1 ++ ⟨#[x]⟩)) = false; rw [si_pr2 hx]; simp
 ·show (_ && decide ((⟨#[x]⟩ : ByteArray) = ⟨#[46]⟩)) = false; simp [one_ne hx.2.2.1]
theorem bk58 : Bk 3 58 := by unfold Bk; decide
theorem splitB_cc {c : ByteArray} {Q : List Prt} (hq : splitB c = .inr Q) : splitB ((⟨#[58]⟩ : ByteArray) ++ ((⟨#[58]⟩ : ByteArray) ++ c)) = .inr ((3, 0, 1) :: ((3, 0, 1) :: Q.map (sh 1)).map (sh 1)) := splitB_sg bk58 (splitB_sg bk58 hq)
theorem txt_cc (c : ByteArray) (Q : List Prt) : texts ((⟨#[58]⟩ : ByteArray) ++ ((⟨#[58]⟩ : ByteArray) ++ c)) ((3, 0, 1) :: ((3, 0, 1) :: Q.map (sh 1)).map (sh 1)) = (3, ⟨#[58]⟩, 0) :: (3, ⟨#[58]⟩, 1) :: ((texts c Q).map (shK 1)).map (shK 1) := by
 rw [txt_sg, txt_sg]; rfl
theorem toks_cc0 {c : ByteArray} {T : List Tk} (h : toksB c = .inr T) : toksB ((⟨#[58]⟩ : ByteArray) ++ ((⟨#[58]⟩ : ByteArray) ++ c)) = .inr ((5, b2 58 58, 0) :: (T.map (shK 1)).map (shK 1)) := by
 obtain ⟨P, hp, hf⟩ := toksB_get h
 refine toksB_of (splitB_cc hp) ?_
 rw [txt_cc]
 generalize hM : ((texts c P).map (shK 1)).map (shK 1) = M
 have e2 : fstT (3, ⟨#[58]⟩, 0) ((3, ⟨#[58]⟩, 1) :: M) = (5, 2) := by
  unfold fstT
  have e1 : qt (3, ⟨#[58]⟩, 0) = false := by decide
  have e2 : prT (3, ⟨#[58]⟩, 0) ((3, ⟨#[58]⟩, 1) :: M) = true := by
   rw [prT]; decide
  rw [e1, if_neg (by simp), if_neg (by simp), if_pos rfl, e2]; rfl
 have e3 : tokT ((⟨#[58]⟩ : ByteArray) ++ ((⟨#[58]⟩ : ByteArray) ++ c)) (3, ⟨#[58]⟩, 0) ((3, ⟨#[58]⟩, 1) :: M) = (5, b2 58 58, 0) := by
  unfold tokT
  rw [e2]
  show (5, saidT 5 (((⟨#[58]⟩ : ByteArray) ++ ((⟨#[58]⟩ : ByteArray) ++ c)).extract 0 2), 0) = _
  rw [low_said (x := 58) 5 (by decide) (by decide), ← ByteArray.append_assoc, ext_left _ _ _ _ (by decide)]
  have : ((⟨#[58]⟩ : ByteArray) ++ ⟨#[58]⟩).extract 0 2 = b2 58 58 := by decide
  rw [this]
 have hL : ((3, 0, 1) :: List.map (sh 1) ((3, 0, 1) :: List.map (sh 1) P) : List Prt).length = P.length + 2 := by simp
 rw [hL, show P.length + 2 = (P.length + 1) + 1 by rfl, toksF, e2, if_neg (by simp), e3]
 subst hM
 have hC := toks_right (⟨#[58]⟩ : ByteArray) c [] P.length (P.length + 1) (texts c P) [] T 0 (Od_cov c P 0 _ (splitB_cov hp)) (by rw [texts_length]; omega) (by rw [texts_length]; omega) hf
 have ho : Od ((⟨#[58]⟩ : ByteArray) ++ c) 0 ((texts c P).map (shK 1)) := by
  have h1 := Od_cov _ _ 0 _ (splitB_cov (splitB_sg bk58 hp))
  rw [txt_sg] at h1
  exact Od_mono h1.2.2.2 (Nat.zero_le _)
 simp only [one_size, List.map_nil, List.nil_append] at hC
 have := toks_right (⟨#[58]⟩ : ByteArray) ((⟨#[58]⟩ : ByteArray) ++ c) [(5, b2 58 58, 0)] (P.length + 1) (P.length + 1) ((texts c P).map (shK 1)) [] _ 0 ho (by rw [List.length_map, texts_length]; omega) (by rw [List.length_map, texts_length]; omega) hC
 simp only [one_size, List.map_nil, List.append_nil] at this
 exact this
theorem toks_cc {a c : ByteArray} {TA T : List Tk} (h58 : a.data.toList.getLast? ≠ some 58) (ha : toksB a = .inr (TA ++ [(0, ⟨#[]⟩, (a.size : Int))])) (hc : toksB c = .inr T) :
  toksB (a ++ ((⟨#[58]⟩ : ByteArray) ++ ((⟨#[58]⟩ : ByteArray) ++ c))) = .inr (TA ++ ((5, b2 58 58, 0) :: (T.map (shK 1)).map (shK 1)).map (shK a.size)) := by
 obtain ⟨P, hp, -⟩ := toksB_get ha
 obtain ⟨Q, hq, -⟩ := toksB_get hc
 refine toks_app (.inl (kind_low bk58 _)) hp (splitB_cc hq) (fun p q h1 h2 => ?_) ha (toks_cc0 hc)
 rw [txt_cc, List.map_cons] at h2
 simp only [List.head?_cons, Option.some.injEq] at h2
 subst h2
 refine ⟨?_, ?_, ?_, ?_⟩
 ·rw [qt_sh]; simp [qt, show (⟨#[58]⟩ : ByteArray) ≠ qB by decide]
 ·simp [shK]
 ·show (besT p (shK a.size (3, ⟨#[58]⟩, 0)) && isPr (p.2.1 ++ ⟨#[58]⟩)) = false
  by_cases hb : besT p (shK a.size (3, ⟨#[58]⟩, 0)) = true
  ·rw [hb, Bool.true_and]
   have hne : p.2.1 ≠ ⟨#[58]⟩ := by
    intro e
    unfold besT shK at hb
    have hb := of_decide_eq_true hb
    simp only at hb
    rw [e] at hb
    have hsz : (⟨#[58]⟩ : ByteArray).size = 1 := rfl
    rw [hsz] at hb
    obtain ⟨u, hu, hu2⟩ : ∃ u ∈ P, p = (u.1, a.extract u.2.1 u.2.2, (u.2.1 : Int)) := by
     have := List.mem_of_getLast? h1
     unfold texts at this
     obtain ⟨u, h1, h2⟩ := List.mem_map.1 this
     exact ⟨u, h1, h2.symm⟩
    have e1 : p.2.1 = a.extract u.2.1 u.2.2 := by rw [hu2]
    have e2 : p.2.2 = (u.2.1 : Int) := by rw [hu2]
    have hu1 : u.2.1 + 1 = a.size := by omega
    rw [e] at e1
    have e3 := congrArg (fun b : ByteArray => b.data.toList) e1
    simp only [ByteArray.data_extract, Array.toList_extract] at e3
    apply h58
    rw [List.getLast?_eq_getElem?]
    have hl : a.data.toList.length = a.size := by simp
    rw [hl, show a.size - 1 = u.2.1 by omega]
    have e4 := congrArg (fun l : List UInt8 => l[0]?) e3
    simp only [List.extract_eq_take_drop, List.getElem?_take, List.getElem?_drop, Nat.add_zero] at e4
    split at e4
    ·exact e4.symm
    ·simp at e4
   have k : ∀ (y z : UInt8), z ≠ 58 → p.2.1 ++ (⟨#[58]⟩ : ByteArray) ≠ ⟨#[y, z]⟩ := by
    intro y z h0 e
    have q := congrArg (fun b : ByteArray => b.data.toList.getLast?) e
    simp at q
    exact h0 q.symm
   unfold isPr
   simp only [Bool.or_eq_false_iff, decide_eq_false_iff_not]
   refine ⟨⟨⟨k _ _ (by decide), k _ _ (by decide)⟩, k _ _ (by decide)⟩, fun e => hne ?_⟩
   have q := congrArg (fun b : ByteArray => b.data.toList) e
   simp only [ByteArray.data_append, Array.toList_append] at q
   apply ByteArray.ext; apply Array.ext'
   exact List.append_cancel_right (bs := [58]) q
  ·simp at hb; rw [hb]; rfl
 ·show (_ && decide ((⟨#[58]⟩ : ByteArray) = ⟨#[46]⟩)) = false; simp [show (⟨#[58]⟩ : ByteArray) ≠ ⟨#[46]⟩ by decide]
theorem shK_t (m : Nat) (p : Tk) : (shK m p).2.1 = p.2.1 := rfl
mutual
theorem nt_sh (m : Nat) {n : Nd} {L : List Tk} : NT n L → NT n (L.map (shK m))
 | .num p a h => .num (shK m p) a h
 | .dec p a h => .dec (shK m p) a h
 | .txt p a h => .txt (shK m p) a h
 | .tf p a h h2 => .tf (shK m p) a h h2
 | .lit p u a b h h2 h3 => .lit (shK m p) (shK m u) a b h h2 h3
 | .neg l o r a x L hl hm hr h => by
  have := NT.neg (shK m l) (shK m o) (shK m r) a x _ hl hm hr (nt_sh m h)
  simpa using this
 | .not l o r a x L hl hm hr h => by
  have := NT.not (shK m l) (shK m o) (shK m r) a x _ hl hm hr (nt_sh m h)
  simpa using this
 | .op l o r a lev x y L M hl hv ho hr h h2 => by
  have := NT.op (shK m l) (shK m o) (shK m r) a lev x y _ _ hl hv ho hr (nt_sh m h) (nt_sh m h2)
  simpa [shK_t] using this
 | .at_ l o u z r a x y L M hl ho hu hz hr h h2 => by
  have := NT.at_ (shK m l) (shK m o) (shK m u) (shK m z) (shK m r) a x y _ _ hl ho hu hz hr (nt_sh m h) (nt_sh m h2)
  simpa using this
 | .call0 p l r a h hl hr => .call0 (shK m p) (shK m l) (shK m r) a h hl hr
 | .call p l r a ks L h hl hr hk => by
  have := NT.call (shK m p) (shK m l) (shK m r) a ks _ h hl hr (kt_sh m hk)
  simpa [shK_t] using this
 | .cast l o t r a x L hl ho ht hr h => by
  have := NT.cast (shK m l) (shK m o) (shK m t) (shK m r) a x _ hl ho ht hr (nt_sh m h)
  simpa [shK_t] using this
theorem kt_sh (m : Nat) {ks : List Nd} {L : List Tk} : KT ks L → KT ks (L.map (shK m))
 | .one x L h => .one x _ (nt_sh m h)
 | .more x y ks c L M hc h hk => by
  have := KT.more x y ks (shK m c) _ _ hc (nt_sh m h) (kt_sh m hk)
  simpa using this
end
def LX (R : List Tk → Prop) (s : ByteArray) : Prop := ∃ L, toksB s = .inr (L ++ [(0, ⟨#[]⟩, (s.size : Int))]) ∧ R L
def Sh (R : List Tk → Prop) : Prop := ∀ m L, R L → R (L.map (shK m))
def Cat (R S : List Tk → Prop) : List Tk → Prop := fun L => ∃ A C, R A ∧ S C ∧ L = A ++ C
def One (k : Int) (t : ByteArray) : List Tk → Prop := fun L => ∃ p : Tk, p.1 = k ∧ p.2.1 = t ∧ L = [p]
def Non : List Tk → Prop := fun L => L = []
theorem Sh.cat {R S : List Tk → Prop} (h : Sh R) (h2 : Sh S) : Sh (Cat R S) := by
 rintro m L ⟨A, C, a, c, rfl⟩
 exact ⟨_, _, h m A a, h2 m C c, List.map_append⟩
theorem Sh.one (k : Int) (t : ByteArray) : Sh (One k t) := by
 rintro m L ⟨p, e1, e2, rfl⟩
 exact ⟨shK m p, e1, e2, rfl⟩
theorem Sh.non : Sh Non := by
 rintro m L rfl; rfl
theorem lx_non : LX Non ByteArray.empty := ⟨[], by decide +kernel, rfl⟩
theorem end_sh (m : Nat) (z : Int) (L : List Tk) : (L ++ [(0, (⟨#[]⟩ : ByteArray), z)]).map (shK m) = L.map (shK m) ++ [(0, ⟨#[]⟩, z + m)] := by simp [shK]
theorem bk32 : Bk 0 32 := by unfold Bk; decide
theorem lx_sp {R S : List Tk → Prop} {a c : ByteArray} (hs : Sh S) (ha : LX R a) (hc : LX S c) : LX (Cat R S) (a ++ ((⟨#[32]⟩ : ByteArray) ++ c)) := by
 obtain ⟨A, ea, ra⟩ := ha
 obtain ⟨C, ec, rc⟩ := hc
 refine ⟨A ++ (C.map (shK 1)).map (shK a.size), ?_, _, _, ra, hs _ _ (hs _ _ rc), rfl⟩
 rw [toks_sp bk32 ea ec, end_sh, end_sh, List.append_assoc]
 congr 4
 rw [ByteArray.size_append, ByteArray.size_append, one_size]; simp; omega
theorem lx_si {x : UInt8} (hx : Si x) {S : List Tk → Prop} {c : ByteArray} (hs : Sh S) (hc : LX S c) : LX (Cat (One 5 ⟨#[x]⟩) S) ((⟨#[x]⟩ : ByteArray) ++ c) := by
 obtain ⟨C, ec, rc⟩ := hc
 refine ⟨[(5, ⟨#[x]⟩, 0)] ++ C.map (shK 1), ?_, _, _, ⟨_, rfl, rfl, rfl⟩, hs _ _ rc, rfl⟩
 rw [toks_si hx ec, end_sh]
 have : (c.size : Int) + ((1 : Nat) : Int) = (((⟨#[x]⟩ : ByteArray) ++ c).size : Int) := by rw [ByteArray.size_append, one_size]; omega
 rw [this]; simp
theorem lx_bt {x : UInt8} (hx : Si x) {R S : List Tk → Prop} {a c : ByteArray} (hs : Sh S) (ha : LX R a) (hc : LX S c) : LX (Cat R (Cat (One 5 ⟨#[x]⟩) S)) (a ++ ((⟨#[x]⟩ : ByteArray) ++ c)) := by
 obtain ⟨A, ea, ra⟩ := ha
 obtain ⟨C, ec, rc⟩ := hc
 refine ⟨A ++ ([shK a.size (5, ⟨#[x]⟩, 0)] ++ (C.map (shK 1)).map (shK a.size)), ?_, _, _, ra, ⟨_, _, ⟨_, rfl, rfl, rfl⟩, hs _ _ (hs _ _ rc), rfl⟩, rfl⟩
 rw [toks_bt hx ea ec, List.map_cons, end_sh, end_sh]
 have : (c.size : Int) + ((1 : Nat) : Int) + (a.size : Int) = ((a ++ ((⟨#[x]⟩ : ByteArray) ++ c)).size : Int) := by rw [ByteArray.size_append, ByteArray.size_append, one_size]; omega
 rw [this]; simp
theorem lx_cc {R S : List Tk → Prop} {a c : ByteArray} (h58 : a.data.toList.getLast? ≠ some 58) (hs : Sh S) (ha : LX R a) (hc : LX S c) : LX (Cat R (Cat (One 5 (b2 58 58)) S)) (a ++ ((⟨#[58]⟩ : ByteArray) ++ ((⟨#[58]⟩ : ByteArray) ++ c))) := by
 obtain ⟨A, ea, ra⟩ := ha
 obtain ⟨C, ec, rc⟩ := hc
 refine ⟨A ++ ([shK a.size (5, b2 58 58, 0)] ++ ((C.map (shK 1)).map (shK 1)).map (shK a.size)), ?_, _, _, ra, ⟨_, _, ⟨_, rfl, rfl, rfl⟩, hs _ _ (hs _ _ (hs _ _ rc)), rfl⟩, rfl⟩
 rw [toks_cc h58 ea ec, List.map_cons, end_sh, end_sh, end_sh]
 have : (c.size : Int) + ((1 : Nat) : Int) + ((1 : Nat) : Int) + (a.size : Int) = ((a ++ ((⟨#[58]⟩ : ByteArray) ++ ((⟨#[58]⟩ : ByteArray) ++ c))).size : Int) := by rw [ByteArray.size_append, ByteArray.size_append, ByteArray.size_append, one_size]; omega
 rw [this]; simp
theorem LX.mono {R S : List Tk → Prop} {s : ByteArray} (h : LX R s) (hs : ∀ L, R L → S L) : LX S s := by
 obtain ⟨L, e, r⟩ := h; exact ⟨L, e, hs L r⟩
theorem sgs_toks : (([0, 1, 3, 4, 5] : List Nat).all fun lev => (sgs lev).all fun x => decide (toksB x.2 = .inr ([(x.1, x.2, 0)] ++ [(0, ⟨#[]⟩, (x.2.size : Int))]))) = true := by decide +kernel
theorem lx_sgs {lev : Nat} (hv : lev = 0 ∨ lev = 1 ∨ lev = 3 ∨ lev = 4 ∨ lev = 5) {k : Int} {o : ByteArray} (h : (k, o) ∈ sgs lev) : LX (One k o) o := by
 have h1 := List.all_eq_true.1 sgs_toks lev (by rcases hv with rfl | rfl | rfl | rfl | rfl <;> simp)
 have h2 := of_decide_eq_true (List.all_eq_true.1 h1 _ h)
 exact ⟨_, h2, _, rfl, rfl, rfl⟩
theorem lx_atz : LX (Cat (One 4 atB) (Cat (One 4 timeB) (One 4 zoneB))) atzB :=
 ⟨[(4, atB, 0), (4, timeB, 3), (4, zoneB, 8)], by decide +kernel, [(4, atB, 0)], [(4, timeB, 3), (4, zoneB, 8)], ⟨_, rfl, rfl, rfl⟩, ⟨[(4, timeB, 3)], [(4, zoneB, 8)], ⟨_, rfl, rfl, rfl⟩, ⟨_, rfl, rfl, rfl⟩, rfl⟩, rfl⟩
theorem lx_not : LX (One 4 notB) notB := ⟨[(4, notB, 0)], by decide +kernel, _, rfl, rfl, rfl⟩
theorem lx_neg : LX (One 5 (b1 45)) (b1 45) := ⟨[(5, b1 45, 0)], by decide +kernel, _, rfl, rfl, rfl⟩
theorem lx_tf {t : ByteArray} (h : t = trueB ∨ t = falseB) : LX (One 4 t) t := by
 rcases h with rfl | rfl
 ·exact ⟨[(4, trueB, 0)], by decide +kernel, _, rfl, rfl, rfl⟩
 ·exact ⟨[(4, falseB, 0)], by decide +kernel, _, rfl, rfl, rfl⟩
theorem si40 : Si 40 := by unfold Si Bk; decide
theorem si41 : Si 41 := by unfold Si Bk; decide
theorem si44 : Si 44 := by unfold Si Bk; decide
def rawT (k : Int) (t : ByteArray) : ByteArray := if k = 3 then bsT ([39] ++ rpQ t ++ [39]) else t
def Lf (k : Int) (t : ByteArray) : Prop := k = 1 ∨ k = 2 ∨ k = 3 ∨ k = 4 → LX (One k t) (rawT k t) ∧ (rawT k t).data.toList.getLast? ≠ some 58
theorem bsT_list (l : List UInt8) : (bsT l).data.toList = l := by simp [bsT]
theorem lx_blank {R : List Tk → Prop} {c : ByteArray} (hs : Sh R) (hc : LX R c) : LX R ((⟨#[32]⟩ : ByteArray) ++ c) := by
 obtain ⟨C, ec, rc⟩ := hc
 refine ⟨C.map (shK 1), ?_, hs _ _ rc⟩
 rw [toks_blank bk32 ec, end_sh]
 have : (c.size : Int) + ((1 : Nat) : Int) = (((⟨#[32]⟩ : ByteArray) ++ c).size : Int) := by rw [ByteArray.size_append, one_size]; omega
 rw [this]
theorem lx_typ {t : ByteArray} (h : typB t = true) : LX (One 4 t) t := by
 unfold typB at h
 simp only [Bool.or_eq_true, decide_eq_true_eq] at h
 rcases h with ((rfl | rfl) | rfl) | rfl
 ·exact ⟨[(4, dateB, 0)], by decide +kernel, _, rfl, rfl, rfl⟩
 ·exact ⟨[(4, stampB, 0)], by decide +kernel, _, rfl, rfl, rfl⟩
 ·exact ⟨[(4, tzB, 0)], by decide +kernel, _, rfl, rfl, rfl⟩
 ·exact ⟨[(4, ivB, 0)], by decide +kernel, _, rfl, rfl, rfl⟩
theorem free_of {p : Tk} (h : p.1 = 4) (hr : rsvd p.2.1 = false) : free p = true := by unfold free; rw [hr, h]; rfl
theorem isT_of {o : Tk} {lev : Nat} {k : Int} {t : ByteArray} (h : (k, t) ∈ sgs lev) (h1 : o.1 = k) (h2 : o.2.1 = t) : isT o (sgs lev) = true := List.any_eq_true.2 ⟨_, h, decide_eq_true ⟨h1, h2⟩⟩
theorem Sh.nt (n : Nd) : Sh (NT n) := fun m _ h => nt_sh m h
theorem Sh.kt (ks : List Nd) : Sh (KT ks) := fun m _ h => kt_sh m h
theorem cl_last (l : List UInt8) : (bsT (l ++ [41])).data.toList.getLast? ≠ some 58 := by rw [bsT_list]; simp
theorem raw_leaf {k : Int} (hk : k = 1 ∨ k = 2 ∨ k = 3) (t : ByteArray) (a : Int) : bsT (wrN (.mk k t [] a)) = rawT k t := by
 rcases hk with rfl | rfl | rfl
 ·show bsT t.data.toList = t; exact bsT_of t
 ·show bsT t.data.toList = t; exact bsT_of t
 ·rfl
theorem lx_end {R : List Tk → Prop} {a : ByteArray} (ha : LX R a) : LX (Cat R (One 5 (b1 41))) (a ++ ((⟨#[41]⟩ : ByteArray) ++ ByteArray.empty)) := by
 refine (lx_bt si41 .non ha lx_non).mono ?_
 rintro L ⟨A, C, ra, ⟨B, D, hb, rfl, rfl⟩, rfl⟩
 exact ⟨A, B, ra, hb, by simp⟩
theorem txt_eq {s : List UInt8} {b : ByteArray} (h : s = b.data.toList) : bsT s = b := by rw [h]; exact bsT_of b
theorem kt_lx : ∀ (ks : List Nd), ks ≠ [] → (∀ n ∈ ks, LX (NT n) (bsT (wrN n))) → LX (KT ks) (bsT (jnW [44, 32] true (wrT ks)))
 | [], h, _ => absurd rfl h
 | [x], _, h => by
  have e : bsT (jnW [44, 32] true (wrT [x])) = bsT (wrN x) := by simp [wrT, jnW]
  rw [e]
  exact (h x (by simp)).mono fun L hl => .one x L hl
 | x :: y :: l, _, h => by
  have ih := kt_lx (y :: l) (by simp) fun n hn => h n (by simp at hn ⊢; exact .inr hn)
  have e : bsT (jnW [44, 32] true (wrT (x :: y :: l))) = bsT (wrN x) ++ ((⟨#[44]⟩ : ByteArray) ++ ((⟨#[32]⟩ : ByteArray) ++ bsT (jnW [44, 32] true (wrT (y :: l))))) := by
   apply txt_eq; simp [wrT, jnW, bsT]
  rw [e]
  refine (lx_bt si44 (.kt _) (h x (by simp)) (lx_blank (.kt _) ih)).mono ?_
  rintro L ⟨A, C, ra, ⟨B, D, ⟨c, c1, c2, rfl⟩, hd, rfl⟩, rfl⟩
  exact .more x y l c A D ⟨c1, c2⟩ ra hd
theorem wf_toks {n : Nd} (h : Wf Lf n) : LX (NT n) (bsT (wrN n)) ∧ (bsT (wrN n)).data.toList.getLast? ≠ some 58 := by
 induction h with
 | leaf k t a hk h =>
  obtain ⟨h1, h2⟩ := h (by omega)
  rw [raw_leaf hk]
  refine ⟨h1.mono ?_, h2⟩
  rintro L ⟨p, e1, rfl, rfl⟩
  rcases hk with rfl | rfl | rfl
  ·exact .num p a e1
  ·exact .dec p a e1
  ·exact .txt p a e1
 | tf t a h =>
  have e : bsT (wrN (.mk 4 t [] a)) = t := bsT_of t
  rw [e]
  refine ⟨(lx_tf h).mono ?_, by rcases h with rfl | rfl <;> decide⟩
  rintro L ⟨p, e1, rfl, rfl⟩
  exact .tf p a e1 h
 | lit t u a b ht hu =>
  obtain ⟨h1, h2⟩ := hu (by omega)
  have e : bsT (wrN (.mk 5 t [.mk 3 u [] b] a)) = t ++ ((⟨#[32]⟩ : ByteArray) ++ rawT 3 u) := by
   apply txt_eq; simp [wrN, wrT, frW, jnW, rawT, bsT]
  rw [e]
  refine ⟨(lx_sp (.one _ _) (lx_typ ht) h1).mono ?_, ?_⟩
  ·rintro L ⟨A, C, ⟨p, p1, rfl, rfl⟩, ⟨q, q1, rfl, rfl⟩, rfl⟩
   exact .lit p q a b p1 ht q1
  ·have : wrN (.mk 5 t [.mk 3 u [] b] a) = (t.data.toList ++ [32] ++ [39] ++ rpQ u) ++ [39] := by simp [wrN, wrT, frW, jnW]
   rw [← e, bsT_list, this, List.getLast?_concat]; decide
 | neg x a h ih =>
  have e : bsT (wrN (.mk 6 ⟨#[]⟩ [x] a)) = (⟨#[40]⟩ : ByteArray) ++ (b1 45 ++ ((⟨#[32]⟩ : ByteArray) ++ (bsT (wrN x) ++ ((⟨#[41]⟩ : ByteArray) ++ ByteArray.empty)))) := by
   apply txt_eq; simp [wrN, wrT, frW, jnW, bsT, b1]
  refine ⟨?_, ?_⟩
  ·rw [e]
   refine (lx_si si40 (.cat (.one _ _) (.cat (.nt _) (.one _ _))) (lx_sp (.cat (.nt _) (.one _ _)) lx_neg (lx_end ih.1))).mono ?_
   rintro L ⟨_, _, ⟨p, p1, p2, rfl⟩, ⟨_, _, ⟨q, q1, q2, rfl⟩, ⟨M, _, hM, ⟨r, r1, r2, rfl⟩, rfl⟩, rfl⟩, rfl⟩
   exact .neg p q r a x M ⟨p1, p2⟩ ⟨q1, q2⟩ ⟨r1, r2⟩ hM
  ·exact cl_last _
 | not x a h ih =>
  have e : bsT (wrN (.mk 7 ⟨#[]⟩ [x] a)) = (⟨#[40]⟩ : ByteArray) ++ (notB ++ ((⟨#[32]⟩ : ByteArray) ++ (bsT (wrN x) ++ ((⟨#[41]⟩ : ByteArray) ++ ByteArray.empty)))) := by
   apply txt_eq; simp [wrN, wrT, frW, jnW, bsT, notB]
  refine ⟨?_, ?_⟩
  ·rw [e]
   refine (lx_si si40 (.cat (.one _ _) (.cat (.nt _) (.one _ _))) (lx_sp (.cat (.nt _) (.one _ _)) lx_not (lx_end ih.1))).mono ?_
   rintro L ⟨_, _, ⟨p, p1, p2, rfl⟩, ⟨_, _, ⟨q, q1, q2, rfl⟩, ⟨M, _, hM, ⟨r, r1, r2, rfl⟩, rfl⟩, rfl⟩, rfl⟩
   exact .not p q r a x M ⟨p1, p2⟩ ⟨q1, q2⟩ ⟨r1, r2⟩ hM
  ·exact cl_last _
 | op lev k o x y a hv ho h h2 ih ih2 =>
  have e : bsT (wrN (.mk 8 o [x, y] a)) = (⟨#[40]⟩ : ByteArray) ++ (bsT (wrN x) ++ ((⟨#[32]⟩ : ByteArray) ++ (o ++ ((⟨#[32]⟩ : ByteArray) ++ (bsT (wrN y) ++ ((⟨#[41]⟩ : ByteArray) ++ ByteArray.empty)))))) := by
   apply txt_eq; simp [wrN, wrT, frW, jnW, bsT]
  refine ⟨?_, ?_⟩
  ·rw [e]
   refine (lx_si si40 (.cat (.nt _) (.cat (.one _ _) (.cat (.nt _) (.one _ _)))) (lx_sp (.cat (.one _ _) (.cat (.nt _) (.one _ _))) ih.1 (lx_sp (.cat (.nt _) (.one _ _)) (lx_sgs hv ho) (lx_end ih2.1)))).mono ?_
   rintro L ⟨_, _, ⟨p, p1, p2, rfl⟩, ⟨M, _, hM, ⟨_, _, ⟨q, q1, rfl, rfl⟩, ⟨K, _, hK, ⟨r, r1, r2, rfl⟩, rfl⟩, rfl⟩, rfl⟩, rfl⟩
   have := NT.op p q r a lev x y M K ⟨p1, p2⟩ hv (isT_of ho q1 rfl) ⟨r1, r2⟩ hM hK
   simpa using this
  ·exact cl_last _
 | at_ x y a h h2 ih ih2 =>
  have e : bsT (wrN (.mk 8 atzB [x, y] a)) = (⟨#[40]⟩ : ByteArray) ++ (bsT (wrN x) ++ ((⟨#[32]⟩ : ByteArray) ++ (atzB ++ ((⟨#[32]⟩ : ByteArray) ++ (bsT (wrN y) ++ ((⟨#[41]⟩ : ByteArray) ++ ByteArray.empty)))))) := by
   apply txt_eq; simp [wrN, wrT, frW, jnW, bsT, atzB]
  refine ⟨?_, ?_⟩
  ·rw [e]
   refine (lx_si si40 (.cat (.nt _) (.cat (.cat (.one _ _) (.cat (.one _ _) (.one _ _))) (.cat (.nt _) (.one _ _)))) (lx_sp (.cat (.cat (.one _ _) (.cat (.one _ _) (.one _ _))) (.cat (.nt _) (.one _ _))) ih.1 (lx_sp (.cat (.nt _) (.one _ _)) lx_atz (lx_end ih2.1)))).mono ?_
   rintro L ⟨_, _, ⟨p, p1, p2, rfl⟩, ⟨M, _, hM, ⟨_, _, ⟨_, _, ⟨q, q1, q2, rfl⟩, ⟨_, _, ⟨u, u1, u2, rfl⟩, ⟨z, z1, z2, rfl⟩, rfl⟩, rfl⟩, ⟨K, _, hK, ⟨r, r1, r2, rfl⟩, rfl⟩, rfl⟩, rfl⟩, rfl⟩
   have := NT.at_ p q u z r a x y M K ⟨p1, p2⟩ (by rw [isT_one]; exact decide_eq_true ⟨q1, q2⟩) (by rw [isT_one]; exact decide_eq_true ⟨u1, u2⟩) (by rw [isT_one]; exact decide_eq_true ⟨z1, z2⟩) ⟨r1, r2⟩ hM hK
   simpa using this
  ·exact cl_last _
 | call t ks a hr ht hk ih =>
  obtain ⟨h1, h2⟩ := ht (by omega)
  have hraw : rawT 4 t = t := rfl
  rw [hraw] at h1
  by_cases hn : ks = []
  ·subst hn
   have e : bsT (wrN (.mk 9 t [] a)) = t ++ ((⟨#[40]⟩ : ByteArray) ++ ((⟨#[41]⟩ : ByteArray) ++ ByteArray.empty)) := by
    apply txt_eq; simp [wrN, wrT, frW, jnW]
   refine ⟨?_, ?_⟩
   ·rw [e]
    refine (lx_bt si40 (.cat (.one _ _) .non) h1 (lx_si si41 .non lx_non)).mono ?_
    rintro L ⟨_, _, ⟨p, p1, rfl, rfl⟩, ⟨_, _, ⟨q, q1, q2, rfl⟩, ⟨_, _, ⟨r, r1, r2, rfl⟩, rfl, rfl⟩, rfl⟩, rfl⟩
    exact .call0 p q r a (free_of p1 hr) ⟨q1, q2⟩ ⟨r1, r2⟩
   ·exact cl_last _
  ·have e : bsT (wrN (.mk 9 t ks a)) = t ++ ((⟨#[40]⟩ : ByteArray) ++ (bsT (jnW [44, 32] true (wrT ks)) ++ ((⟨#[41]⟩ : ByteArray) ++ ByteArray.empty))) := by
    apply txt_eq; simp [wrN, frW, bsT]
   refine ⟨?_, ?_⟩
   ·rw [e]
    refine (lx_bt si40 (.cat (.kt _) (.one _ _)) h1 (lx_end (kt_lx ks hn fun n hn => (ih n hn).1))).mono ?_
    rintro L ⟨_, _, ⟨p, p1, rfl, rfl⟩, ⟨_, _, ⟨q, q1, q2, rfl⟩, ⟨K, _, hK, ⟨r, r1, r2, rfl⟩, rfl⟩, rfl⟩, rfl⟩
    exact .call p q r a ks K (free_of p1 hr) ⟨q1, q2⟩ ⟨r1, r2⟩ hK
   ·exact cl_last _
 | cast t x a hr ht h ih =>
  obtain ⟨h1, h2⟩ := ht (by omega)
  have hraw : rawT 4 t = t := rfl
  rw [hraw] at h1
  have e : bsT (wrN (.mk 10 t [x] a)) = (⟨#[40]⟩ : ByteArray) ++ (bsT (wrN x) ++ ((⟨#[58]⟩ : ByteArray) ++ ((⟨#[58]⟩ : ByteArray) ++ (t ++ ((⟨#[41]⟩ : ByteArray) ++ ByteArray.empty))))) := by
   apply txt_eq; simp [wrN, wrT, frW, jnW, bsT]
  refine ⟨?_, ?_⟩
  ·rw [e]
   refine (lx_si si40 (.cat (.nt _) (.cat (.one _ _) (.cat (.one _ _) (.one _ _)))) (lx_cc ih.2 (.cat (.one _ _) (.one _ _)) ih.1 (lx_end h1))).mono ?_
   rintro L ⟨_, _, ⟨p, p1, p2, rfl⟩, ⟨M, _, hM, ⟨_, _, ⟨q, q1, q2, rfl⟩, ⟨_, _, ⟨u, u1, rfl, rfl⟩, ⟨r, r1, r2, rfl⟩, rfl⟩, rfl⟩, rfl⟩, rfl⟩
   have := NT.cast p q u r a x M ⟨p1, p2⟩ (by rw [isT_one]; exact decide_eq_true ⟨q1, q2⟩) (free_of u1 hr) ⟨r1, r2⟩ hM
   simpa using this
  ·have : wrN (.mk 10 t [x] a) = ([40] ++ wrN x ++ [58, 58] ++ t.data.toList) ++ [41] := by simp [wrN, wrT, frW, jnW]
   rw [this]; exact cl_last _
def bL (l : List UInt8) (j : Nat) : Nat := (l[j]?.map UInt8.toNat).getD 0
def rlL (l : List UInt8) : Nat :=
 if bL l 0 < 128 then 1
 else if rN (bL l 0) = 0 ∨ l.length < rN (bL l 0) ∨ bL l 1 < rLo (bL l 0) ∨ rHi (bL l 0) < bL l 1 then 0
 else if 3 ≤ rN (bL l 0) ∧ (bL l 2 < 128 ∨ 191 < bL l 2) then 0
 else if 4 ≤ rN (bL l 0) ∧ (bL l 3 < 128 ∨ 191 < bL l 3) then 0
 else rN (bL l 0)
theorem bL_sb (s : ByteArray) (i j : Nat) : bL (sb s i) j = bt s (i + j) := by
 unfold bL
 rw [sb_get]
 by_cases h : i + j < s.size
 ·rw [(bt_get s _ h).1, ← (bt_get s _ h).2]; rfl
 ·rw [bt_beyond s _ h, List.getElem?_eq_none (by rw [sz]; omega)]; rfl
theorem rlong_L (s : ByteArray) (i : Nat) : rlong s i = rlL (sb s i) := by
 unfold rlong rlL
 rw [bL_sb, bL_sb, bL_sb, bL_sb, sb_length]
 rfl
theorem bL_take {l : List UInt8} {n j : Nat} (h : j < n) (m : List UInt8) (hn : n ≤ l.length) : bL (l.take n ++ m) j = bL l j := by
 unfold bL
 rw [List.getElem?_append_left (by rw [List.length_take]; omega), List.getElem?_take, if_pos h]
theorem rN_cases (c : Nat) : rN c = 0 ∨ rN c = 2 ∨ rN c = 3 ∨ rN c = 4 := by unfold rN; repeat' split
                                                                             all_goals simp
theorem rLo_ge (c : Nat) : 128 ≤ rLo c := by unfold rLo; repeat' split
                                             all_goals omega
def Hi (r : List UInt8) : Prop := 2 ≤ r.length ∧ (∀ x ∈ r, 128 ≤ x.toNat) ∧ ∀ m, rlL (r ++ m) = r.length
theorem hi_of {l : List UInt8} (h0 : rlL l ≠ 0) (h1 : ¬ bL l 0 < 128) : rlL l ≤ l.length ∧ Hi (l.take (rlL l)) := by
 have hd := h0
 unfold rlL at hd
 rw [if_neg h1] at hd
 split at hd
 ·exact absurd rfl hd
 rename_i a1
 split at hd
 ·exact absurd rfl hd
 rename_i a2
 split at hd
 ·exact absurd rfl hd
 rename_i a3
 have e : rlL l = rN (bL l 0) := by unfold rlL; rw [if_neg h1, if_neg a1, if_neg a2, if_neg a3]
 rw [e]
 have hc := rN_cases (bL l 0)
 have hlo := rLo_ge (bL l 0)
 have hn : rN (bL l 0) ≤ l.length := by omega
 have hlen : (l.take (rN (bL l 0))).length = rN (bL l 0) := by rw [List.length_take]; omega
 refine ⟨hn, by rw [hlen]; omega, fun x hx => ?_, fun m => ?_⟩
 ·obtain ⟨j, hj, hx⟩ := List.mem_iff_getElem.1 hx
  rw [hlen] at hj
  have hb : bL l j = x.toNat := by
   unfold bL
   rw [List.getElem_take] at hx
   rw [List.getElem?_eq_getElem (by omega), hx]; rfl
  rw [← hb]
  have hj4 : j = 0 ∨ j = 1 ∨ j = 2 ∨ j = 3 := by omega
  rcases hj4 with rfl | rfl | rfl | rfl <;> omega
 ·rw [hlen]
  generalize hN : rN (bL l 0) = n at *
  have b0 := bL_take (l := l) (n := n) (j := 0) (by omega) m hn
  have b1 := bL_take (l := l) (n := n) (j := 1) (by omega) m hn
  have hll : (l.take n ++ m).length = n + m.length := by rw [List.length_append, hlen]
  unfold rlL
  rw [b0, b1, hN, hll, if_neg h1, if_neg (by omega)]
  by_cases c3 : 3 ≤ n
  ·rw [bL_take (by omega) m hn, if_neg (by omega)]
   by_cases c4 : 4 ≤ n
   ·rw [bL_take (by omega) m hn, if_neg (by omega)]
   ·rw [if_neg (by omega)]
  ·rw [if_neg (by omega), if_neg (by omega)]
def gdB (c : UInt8) : Bool := !((decide (c.toNat < 32) && !blankN c.toNat) || (c.toNat == 127))
inductive Vd : List UInt8 → Prop where
 | nil : Vd []
 | lo (c : UInt8) (l : List UInt8) (h : c.toNat < 128) (hg : gdB c = true) (hv : Vd l) : Vd (c :: l)
 | hi (r l : List UInt8) (h : Hi r) (hv : Vd l) : Vd (r ++ l)
theorem Vd.app {a b : List UInt8} (h : Vd a) (h2 : Vd b) : Vd (a ++ b) := by
 induction h with
 | nil => exact h2
 | lo c l h hg hv ih => exact .lo c _ h hg ih
 | hi r l h hv ih => rw [List.append_assoc]; exact .hi r _ h ih
theorem vd_of (s : ByteArray) : ∀ (f i : Nat), s.size ≤ i + f → rcheck s f i = none → Vd (sb s i)
 | 0, i, h, _ => by
  have : sb s i = [] := List.eq_nil_of_length_eq_zero (by rw [sb_length]; omega)
  rw [this]; exact .nil
 | f + 1, i, h, hr => by
  by_cases hi : i < s.size
  ·rw [rcheck, if_pos hi] at hr
   by_cases hb : badN s i = true
   ·rw [if_pos hb] at hr; cases hr
   ·rw [if_neg hb] at hr
    have hb' : badN s i = false := by simpa using hb
    unfold badN at hb'
    rw [Bool.or_eq_false_iff, Bool.or_eq_false_iff] at hb'
    obtain ⟨⟨z0, z1⟩, z2⟩ := hb'
    have h0 : rlong s i ≠ 0 := by simpa using z0
    by_cases c : bt s i < 128
    ·have e1 : rlong s i = 1 := by unfold rlong; rw [if_pos c]
     rw [e1] at hr
     have e2 := sb_one s i hi
     rw [e2]
     have hb := bt_at s i hi
     refine .lo _ _ (by rw [← hb]; exact c) ?_ (vd_of s f (i + 1) (by omega) hr)
     unfold gdB; rw [← hb, z1, z2]; rfl
    ·have hc : ¬ bL (sb s i) 0 < 128 := by rw [bL_sb]; exact c
     rw [rlong_L] at h0 hr
     obtain ⟨k1, k2⟩ := hi_of h0 hc
     have := sb_cut s i (i + rlL (sb s i)) (by omega)
     rw [show i + rlL (sb s i) - i = rlL (sb s i) by omega] at this
     rw [this]
     exact .hi _ _ k2 (vd_of s f _ (by have := k2.1; omega) hr)
  ·have : sb s i = [] := List.eq_nil_of_length_eq_zero (by rw [sb_length]; omega)
   rw [this]; exact .nil
theorem check_of {l : List UInt8} (h : Vd l) : ∀ (s : ByteArray) (i f : Nat), sb s i = l → rcheck s f i = none := by
 induction h with
 | nil =>
  intro s i f e
  refine rcheck_end s f i ?_
  have := congrArg List.length e
  rw [sb_length] at this
  simp at this; omega
 | lo c l h hg hv ih =>
  intro s i f e
  cases f with
  | zero => rfl
  | succ f =>
   have hz := congrArg List.length e
   rw [sb_length, zl] at hz
   have hi : i < s.size := by omega
   have e2 := sb_one s i hi
   rw [e] at e2
   obtain ⟨e3, e4⟩ := List.cons.inj e2
   have hb := bt_at s i hi
   rw [← e3] at hb
   have e1 : rlong s i = 1 := by unfold rlong; rw [if_pos (by omega)]
   unfold gdB at hg
   rw [rcheck_next hi (by unfold badN; rw [e1, hb, show ((1 : Nat) == 0) = false from rfl, Bool.false_or]; rw [Bool.not_eq_true'] at hg; exact hg), e1]
   exact ih s (i + 1) f e4.symm
 | hi r l h hv ih =>
  intro s i f e
  cases f with
  | zero => rfl
  | succ f =>
   obtain ⟨k1, k2, k3⟩ := h
   have hz := congrArg List.length e
   rw [sb_length, List.length_append] at hz
   have hi : i < s.size := by omega
   have e1 : rlong s i = r.length := by rw [rlong_L, e, k3]
   obtain ⟨c, r', rfl⟩ : ∃ c r', r = c :: r' := by cases r with
    | nil => simp at k1
    | cons c r' => exact ⟨c, r', rfl⟩
   have hc := k2 c (by simp)
   have hb : bt s i = c.toNat := by
    have := bL_sb s i 0
    rw [e] at this
    rw [Nat.add_zero] at this
    rw [← this]; rfl
   rw [rcheck_next hi (by
    unfold badN
    rw [e1, hb]
    have a1 : ((c :: r').length == 0) = false := by simp
    have a2 : decide (c.toNat < 32) = false := decide_eq_false (by omega)
    have a3 : (c.toNat == 127) = false := by simp; omega
    rw [a1, a2, a3]; rfl), e1]
   refine ih s _ f ?_
   have := sb_cut s i (i + (c :: r').length) (by omega)
   rw [e, show i + (c :: r').length - i = (c :: r').length by omega, List.take_left'] at this
   ·exact (List.append_cancel_left this).symm
   ·rfl
theorem vd_split {s : ByteArray} {P : List Prt} (h : splitB s = .inr P) : Vd s.data.toList := by
 cases hc : rcheck s s.size 0 with
 | some i => rw [splitB_bad hc] at h; cases h
 | none => have := vd_of s s.size 0 (by omega) hc; unfold sb at this; simpa using this
theorem split_vd {s : ByteArray} (h : Vd s.data.toList) : splitB s = .inr (rparts s s.size 0 []) :=
 splitB_good (check_of h s 0 _ (by unfold sb; rw [List.drop_zero]))
def Jt (a b : List UInt8) : Prop := a = [] ∨ b = [] ∨ (∃ c, a.getLast? = some c ∧ c.toNat < 128) ∨ (∃ c, b.head? = some c ∧ c.toNat < 128)
theorem vd_cut {l : List UInt8} (h : Vd l) : ∀ a b, l = a ++ b → Jt a b → Vd a ∧ Vd b := by
 induction h with
 | nil =>
  intro a b e j
  have := List.append_eq_nil_iff.1 e.symm
  rw [this.1, this.2]; exact ⟨.nil, .nil⟩
 | lo c l h hg hv ih =>
  intro a b e j
  cases a with
  | nil => simp at e; subst e; exact ⟨.nil, .lo c l h hg hv⟩
  | cons d a =>
   rw [List.cons_append] at e
   obtain ⟨rfl, e'⟩ := List.cons.inj e
   have := ih a b e' (by
    cases a with
    | nil => exact .inl rfl
    | cons x a =>
     rcases j with j | j | j | j
     ·cases j
     ·exact .inr (.inl j)
     ·rw [List.getLast?_cons_cons] at j; exact .inr (.inr (.inl j))
     ·exact .inr (.inr (.inr j)))
   exact ⟨.lo c a h hg this.1, this.2⟩
 | hi r l h hv ih =>
  intro a b e j
  rcases List.append_eq_append_iff.1 e with ⟨a', e1, e2⟩ | ⟨c', e1, e2⟩
  ·have := ih a' b e2 (by
    cases a' with
    | nil => exact .inl rfl
    | cons x a' =>
     rcases j with j | j | j | j
     ·rw [e1] at j; simp at j
     ·exact .inr (.inl j)
     ·obtain ⟨c, hc, h128⟩ := j
      rw [e1, List.getLast?_append] at hc
      cases hg : (x :: a').getLast? with
      | none => simp at hg
      | some y =>
       rw [hg] at hc
       simp at hc; subst hc
       exact .inr (.inr (.inl ⟨y, hg, h128⟩))
     ·exact .inr (.inr (.inr j)))
   rw [e1]; exact ⟨.hi r a' h this.1, this.2⟩
  ·cases c' with
   | nil =>
    simp at e1 e2
    rw [← e1, e2]
    have := Vd.hi r [] h .nil
    rw [List.append_nil] at this
    exact ⟨this, hv⟩
   | cons x c' =>
    rcases j with j | j | j | j
    ·rw [j]; subst j; rw [e2]
     rw [List.nil_append] at e1; rw [← e1]
     exact ⟨.nil, .hi r l h hv⟩
    ·rw [e2] at j; simp at j
    ·obtain ⟨c, hc, h128⟩ := j
     have := h.2.1 c (by rw [e1]; exact List.mem_append_left _ (List.mem_of_getLast? hc))
     omega
    ·obtain ⟨c, hc, h128⟩ := j
     rw [e2] at hc
     simp at hc
     have := h.2.1 c (by rw [e1, ← hc]; simp)
     omega
theorem no39_hi {r : List UInt8} (h : Hi r) : ∀ c ∈ r, c ≠ 39 := by
 intro c hc e
 have := h.2.1 c hc
 rw [e] at this
 exact absurd this (by decide)
theorem low_hi {r : List UInt8} (h : Hi r) : r.map lowC = r := by
 have : ∀ c ∈ r, lowC c = c := by
  intro c hc
  have := h.2.1 c hc
  unfold lowC; rw [if_neg (by omega)]
 exact (List.map_congr_left this).trans (List.map_id' r)
theorem gd_low {c : UInt8} (h : c.toNat < 128) (hg : gdB c = true) : (lowC c).toNat < 128 ∧ gdB (lowC c) = true := by
 unfold lowC
 by_cases q : 65 ≤ c.toNat ∧ c.toNat ≤ 90
 ·rw [if_pos q]
  have e := low32 c q
  refine ⟨by omega, ?_⟩
  unfold gdB
  rw [e, decide_eq_false (by omega), show (c.toNat + 32 == 127) = false by simp; omega]; rfl
 ·rw [if_neg q]; exact ⟨h, hg⟩
theorem vd_low {l : List UInt8} (h : Vd l) : Vd (l.map lowC) := by
 induction h with
 | nil => exact .nil
 | lo c l h hg hv ih => rw [List.map_cons]; exact .lo _ _ (gd_low h hg).1 (gd_low h hg).2 ih
 | hi r l h hv ih => rw [List.map_append, low_hi h]; exact .hi r _ h ih
theorem vd_q {l : List UInt8} (h : Vd l) : Vd (39 :: l) := .lo 39 l (by decide) (by decide) h
theorem dq_none : ∀ (r : List UInt8), (∀ c ∈ r, c ≠ 39) → dqL r = r
 | [], h => rfl
 | c :: r, h => by rw [dqL, if_neg (h c (by simp)), dq_none r (fun x hx => h x (by simp [hx]))]; rfl
theorem vd_dq {l : List UInt8} (h : Vd l) : Vd (dqL l) := by
 induction h with
 | nil => exact .nil
 | lo c l h hg hv ih =>
  rw [dqL]
  split
  ·exact vd_q (vd_q ih)
  ·exact .lo c _ h hg ih
 | hi r l h hv ih => rw [dqL_append, dq_none r (no39_hi h)]; exact .hi r _ h ih
theorem qd_dq : ∀ l : List UInt8, qdL (dqL l ++ [39]) = some (l, (dqL l).length + 1)
 | [] => rfl
 | c :: l => by
  rw [dqL]
  by_cases h : c = 39
  ·rw [if_pos h]
   show qdL (39 :: 39 :: (dqL l ++ [39])) = _
   rw [qdL, if_pos rfl, if_pos rfl, qd_dq l, h]
   simp
  ·rw [if_neg h]
   show qdL (c :: (dqL l ++ [39])) = _
   rw [qdL_cons h, qd_dq l]
   simp
theorem unq_dq : ∀ l : List UInt8, unq (dqL l) = l
 | [] => rfl
 | c :: l => by
  rw [dqL]
  by_cases h : c = 39
  ·rw [if_pos h]
   show unq (39 :: 39 :: dqL l) = _
   rw [unq, if_pos ⟨rfl, rfl⟩, unq_dq l, h]
  ·rw [if_neg h]
   show unq (c :: dqL l) = _
   rw [unq_cons h, unq_dq l]
theorem lx_quote (t : ByteArray) (h : Vd t.data.toList) : LX (One 3 t) (rawT 3 t) := by
 obtain ⟨s, hs⟩ : ∃ s, s = rawT 3 t := ⟨_, rfl⟩
 have hl : s.data.toList = 39 :: (dqL t.data.toList ++ [39]) := by
  rw [hs]
  show (bsT ([39] ++ rpQ t ++ [39])).data.toList = _
  rw [bsT_list]; unfold rpQ; rw [repl_dq]; rfl
 have hv : Vd s.data.toList := by rw [hl]; exact vd_q ((vd_dq h).app (vd_q .nil))
 have hz : s.size = (dqL t.data.toList).length + 2 := by rw [← sz, hl]; simp
 have hsp := split_vd hv
 have hpk := rparts_all s
 rw [← hs]
 generalize hP : rparts s s.size 0 [] = P at hsp hpk
 have hb0 : bt s 0 = 39 := by
  have := bL_sb s 0 0
  rw [← this]
  unfold sb bL
  rw [hl]; rfl
 cases P with
 | nil =>
  have := hpk.2.2 0 (by omega) (by omega)
  rw [hb0] at this
  exact absurd this (by decide)
 | cons p L =>
  obtain ⟨h1, h2, h3, h4, h5, h6⟩ := hpk
  have hp0 : p.2.1 = 0 := by
   by_cases c : p.2.1 = 0
   ·exact c
   ·have := h4 0 (by omega) (by omega)
    rw [hb0] at this
    exact absurd this (by decide)
  have hk : p.1 = 3 := by
   have := h5.1 0 (by omega) (by omega)
   rw [hb0] at this
   rw [← this]; decide
  have hp1 : p.2.2 = 1 := by have := h5.2.2 hk; omega
  have hqt : qt (tx s p) = true := (qt_tx s h2 h3 h5).2 ⟨by omega, by rw [hp0]; exact hb0⟩
  rw [hp1] at h6
  have hsb : sb s 1 = dqL t.data.toList ++ [39] := by unfold sb; rw [hl]; rfl
  rcases toQ_qd s L.length L 1 1 (Nat.le_refl _) h6 with ⟨-, e⟩ | ⟨m, q, e1, e2, e3, e4⟩
  ·rw [hsb, qd_dq] at e; cases e
  ·rw [hsb, qd_dq] at e4
   simp only [Option.some.injEq, Prod.mk.injEq] at e4
   obtain ⟨e4, e5⟩ := e4
   have hq2 : q.2.2 = s.size := by omega
   obtain ⟨g1, g2, g3, g4, g5, g6⟩ := Pk_at m 1 _ L q h6 e2
   have hdrop : L.drop (m + 1) = [] := by
    cases hd : L.drop (m + 1) with
    | nil => rfl
    | cons u U => rw [hd] at g5; obtain ⟨k1, k2, k3, -⟩ := g5; omega
   have hf : fstT (tx s p) (texts s L) = (3, m + 2) := by
    unfold fstT
    rw [if_pos hqt, e1, show 1 + m + 1 = m + 2 by omega]
   have hend : endN (tx s p :: texts s L) (m + 1) = s.size := by
    have := end_part (s := s) (L := p :: L) (j := m + 1) (q := q) (by simpa using e2) g2 g3
    rw [← hq2]; exact this
   have htok : tokT s (tx s p) (texts s L) = (3, t, 0) := by
    unfold tokT
    rw [hf]
    show (3, saidT 3 (s.extract ((p.2.1 : Int)).toNat (endN (tx s p :: texts s L) (m + 2 - 1))), (p.2.1 : Int)) = _
    rw [show m + 2 - 1 = m + 1 by omega, hend, hp0]
    have ex : s.extract ((0 : Nat) : Int).toNat s.size = s := by
     apply ByteArray.ext; simp
    rw [ex]
    unfold saidT
    rw [if_neg (by decide), if_pos rfl]
    have ed : (s.extract 1 (s.size - 1)).data.toList = dqL t.data.toList := by
     rw [ext_bytes, hsb]
     have : s.size - 1 - 1 = (dqL t.data.toList).length := by omega
     rw [this, List.take_left']
     rfl
    rw [ed, unq_dq]
    rfl
   refine ⟨[(3, t, 0)], ?_, _, rfl, rfl, rfl⟩
   refine toksB_of hsp ?_
   rw [texts_cons, zl, toksF, hf, if_neg (by simp), htok]
   have hd2 : (tx s p :: texts s L).drop (m + 2) = [] := by
    show (texts s L).drop (m + 1) = []
    unfold texts
    rw [← List.map_drop, hdrop]; rfl
   dsimp only
   rw [hd2]
   cases L.length <;> rfl
end Go.Proofs.YtaoocecipacnhaaDoor
