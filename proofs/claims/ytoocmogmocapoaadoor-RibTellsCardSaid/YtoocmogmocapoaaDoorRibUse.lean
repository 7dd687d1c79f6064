/-
  RIBS IN USE: one that the call has made; two of them, apart.
-/
import Derived.Test.YtoocmogmocapoaaDoorRibList
import Derived.Test.YtoocmogmocapoaaDoorRibActs
import Derived.Test.YtoocmogmocapoaaDoorRibLearnAct
namespace Go.Proofs.YtoocmogmocapoaaDoor
open Go.RowKit Go.Lib RibP

theorem Rbd.keep {S : Nat → Prop} {w w1 : World} {p : Nat} {v : Value} {now : Int} {L : List Rt} (h : Rbd w p v now L) (hk : Keep S w w1) (hp : ¬ S p) (hv : ∀ g, v.ownBlock = some g → ¬ S g) : Rbd w1 p v now L :=
  ⟨h.box.ofBlock (hk.block p h.box.lt hp) hk.size, h.arg.keep hk hv, h.good, h.n0, h.n1, fun g hg => Nat.lt_of_lt_of_le (h.lt g hg) hk.size⟩

/-- A rib that the call has made. -/
structure OneB (w0 w : World) (p : Nat) (s : St) : Prop where
  ex : ∃ v, Rbd w p v s.1 s.2 ∧ ∀ g, v.ownBlock = some g → w0.heap.size ≤ g
  lp : w0.heap.size ≤ p
  bel : Below w0.heap.size w0 w
section
variable {w0 w w1 : World} {p : Nat} {s : St} (h : OneB w0 w p s)
include h
theorem OneB.rib : Rib s := by
  obtain ⟨v, h1, _⟩ := h.ex
  exact h1.rib
theorem OneB.below (hb : Below w.heap.size w w1) : OneB w0 w1 p s := by
  obtain ⟨v, h1, h2⟩ := h.ex
  exact ⟨⟨v, h1.below hb, h2⟩, h.lp, h.bel.trans (hb.mono h.bel.size)⟩
/-- What does not turn below the call's own beginning but for another block. -/
theorem OneB.step : ∃ v, Rbd w p v s.1 s.2 ∧ ∀ w' s', RStp w w' p v s' → OneB w0 w' p s' := by
  obtain ⟨v, h1, h2⟩ := h.ex
  refine ⟨v, h1, ?_⟩
  rintro w' s' ⟨v', a1, a2, a3⟩
  refine ⟨⟨v', a1, fun g hg => ?_⟩, h.lp, h.bel.trans (a3.below (fun b e => e ▸ h.lp) h.bel.size)⟩
  rcases a2 with rfl | a2
  · exact h2 g hg
  · exact Nat.le_trans h.bel.size (a2 g hg)
theorem one_learn (f : Int) (a : Nat) (l m t : Int) (ha : a < 4294967296) :
    Calls Tryd.prog 8 #[.pointer (some ⟨p, 0, none⟩), .int .i64 f, .agg #[.int .u32 (a : Int), .int .i64 l], .int .i64 m, .int .i64 t] w fun r w' => r = .returned (errV (learnE s f (a, l) m t)) ∧ OneB w0 w' p (learnS s f (a, l) m t) := by
  obtain ⟨v, h1, h2⟩ := h.step
  exact (rLearn_any h1 f a l m t ha).mono fun r w' ⟨e, hs⟩ => ⟨e, h2 _ _ hs⟩
theorem one_age (t : Int) : Calls Tryd.prog 12 #[.pointer (some ⟨p, 0, none⟩), .int .i64 t] w fun r w' => r = .returned (errV (ageE s t)) ∧ OneB w0 w' p (ageS s t) := by
  obtain ⟨v, h1, h2⟩ := h.step
  exact (rAge_any h1 t).mono fun r w' ⟨e, hs⟩ => ⟨e, h2 _ _ hs⟩
theorem one_list : Calls Tryd.prog 15 #[.pointer (some ⟨p, 0, none⟩)] w fun r w' => ∃ v H, r = .returned v ∧ RTold s.2 H ∧ LHeld w' w.heap.size v H ∧ Below w.heap.size w w' := by
  obtain ⟨v, h1, _⟩ := h.ex
  exact rList_any h1
theorem one_now : Calls Tryd.prog 17 #[.pointer (some ⟨p, 0, none⟩)] w fun r w' => r = .returned (.int .i64 s.1) ∧ w = w' := by
  obtain ⟨v, h1, _⟩ := h.ex
  exact rNow_any h1
end
theorem new_oneB (w0 w : World) (hb : Below w0.heap.size w0 w) : Calls Tryd.prog 5 #[] w fun r w' => r = .returned (.pointer (some ⟨w.heap.size, 0, none⟩)) ∧ OneB w0 w' w.heap.size (0, []) := by
  refine (rNew_any w).mono ?_
  rintro r w' ⟨rfl, h1, h2⟩
  exact ⟨rfl, ⟨_, h1, fun g hg => by cases hg⟩, hb.size, hb.trans (h2.mono hb.size)⟩

/-- Two ribs that the call has made, apart. -/
structure TwoB (w0 w : World) (p q : Nat) (s1 s2 : St) : Prop where
  ex : ∃ v1 v2, Rbd w p v1 s1.1 s1.2 ∧ Rbd w q v2 s2.1 s2.2 ∧ (∀ g, v1.ownBlock = some g → w0.heap.size ≤ g ∧ g ≠ q) ∧ (∀ g, v2.ownBlock = some g → w0.heap.size ≤ g ∧ g ≠ p)
  ne : p ≠ q
  lp : w0.heap.size ≤ p
  lq : w0.heap.size ≤ q
  bel : Below w0.heap.size w0 w
section
variable {w0 w w1 : World} {p q : Nat} {s1 s2 : St} (h : TwoB w0 w p q s1 s2)
include h
theorem TwoB.swap : TwoB w0 w q p s2 s1 := by
  obtain ⟨v1, v2, h1, h2, h3, h4⟩ := h.ex
  exact ⟨⟨v2, v1, h2, h1, h4, h3⟩, h.ne.symm, h.lq, h.lp, h.bel⟩
theorem TwoB.below (hb : Below w.heap.size w w1) : TwoB w0 w1 p q s1 s2 := by
  obtain ⟨v1, v2, h1, h2, h3, h4⟩ := h.ex
  exact ⟨⟨v1, v2, h1.below hb, h2.below hb, h3, h4⟩, h.ne, h.lp, h.lq, h.bel.trans (hb.mono h.bel.size)⟩
theorem TwoB.step : ∃ v, Rbd w p v s1.1 s1.2 ∧ ∀ w' s', RStp w w' p v s' → TwoB w0 w' p q s' s2 := by
  obtain ⟨v1, v2, h1, h2, h3, h4⟩ := h.ex
  refine ⟨v1, h1, ?_⟩
  rintro w' s' ⟨v', a1, a2, a3⟩
  refine ⟨⟨v', v2, a1, h2.keep a3 (fun e => h.ne e.symm) (fun g hg e => (h4 g hg).2 e), fun g hg => ?_, h4⟩, h.ne, h.lp, h.lq, h.bel.trans (a3.below (fun b e => e ▸ h.lp) h.bel.size)⟩
  rcases a2 with rfl | a2
  · exact h3 g hg
  · have := a2 g hg
    have := h2.box.lt
    have := h.bel.size
    exact ⟨by omega, by omega⟩
theorem two_learn (f : Int) (a : Nat) (l m t : Int) (ha : a < 4294967296) :
    Calls Tryd.prog 8 #[.pointer (some ⟨p, 0, none⟩), .int .i64 f, .agg #[.int .u32 (a : Int), .int .i64 l], .int .i64 m, .int .i64 t] w fun r w' => r = .returned (errV (learnE s1 f (a, l) m t)) ∧ TwoB w0 w' p q (learnS s1 f (a, l) m t) s2 := by
  obtain ⟨v, h1, h2⟩ := h.step
  exact (rLearn_any h1 f a l m t ha).mono fun r w' ⟨e, hs⟩ => ⟨e, h2 _ _ hs⟩
theorem two_age (t : Int) : Calls Tryd.prog 12 #[.pointer (some ⟨p, 0, none⟩), .int .i64 t] w fun r w' => r = .returned (errV (ageE s1 t)) ∧ TwoB w0 w' p q (ageS s1 t) s2 := by
  obtain ⟨v, h1, h2⟩ := h.step
  exact (rAge_any h1 t).mono fun r w' ⟨e, hs⟩ => ⟨e, h2 _ _ hs⟩
theorem two_list : Calls Tryd.prog 15 #[.pointer (some ⟨p, 0, none⟩)] w fun r w' => ∃ v H, r = .returned v ∧ RTold s1.2 H ∧ LHeld w' w.heap.size v H ∧ Below w.heap.size w w' := by
  obtain ⟨v1, v2, h1, _⟩ := h.ex
  exact rList_any h1
end
theorem new_twoB (w0 w : World) (p : Nat) (s : St) (h : OneB w0 w p s) : Calls Tryd.prog 5 #[] w fun r w' => r = .returned (.pointer (some ⟨w.heap.size, 0, none⟩)) ∧ TwoB w0 w' p w.heap.size s (0, []) := by
  obtain ⟨v, h1, h2⟩ := h.ex
  refine (rNew_any w).mono ?_
  rintro r w' ⟨rfl, a1, a2⟩
  have hp := h1.box.lt
  refine ⟨rfl, ⟨v, _, h1.below a2, a1, fun g hg => ⟨h2 g hg, fun e => ?_⟩, fun g hg => by cases hg⟩, by omega, h.lp, h.bel.size, h.bel.trans (a2.mono h.bel.size)⟩
  have := h1.lt g hg
  omega
end Go.Proofs.YtoocmogmocapoaaDoor
