/-
  The methods that container/heap calls: how many things, two compared, two exchanged, one put behind, the last one taken.
-/
import Derived.Test.YtmfajaalbklfeaaDoorHeapMem
import Derived.Lib.Walk
import Derived.Deep.RegionLaw
import Derived.BigQuiet
import Derived.BigRegion
namespace Go.Proofs.YtmfajaalbklfeaaDoor
open Go.RowKit Go.Lib HeapP

set_option maxHeartbeats 1000000 in
set_option maxRecDepth 100000 in
theorem tLen_raw (w : World) (q : Nat) (p : Option Addr) (n c : Nat) (h : w.cell? ⟨q, 0, none⟩ = some (.slice p n c)) :
    Calls Tryd.prog 19 #[.pointer (some ⟨q, 0, none⟩)] w fun e w' => e = .returned (.int .i64 n) ∧ w' = w := by
  go_enter Tryd.func19, Tryd.ntmps19
  go_wp2_with fail
  go_ret
  exact ⟨rfl, rfl⟩

theorem tLen_any (w : World) (q : Nat) (tv : Value) (p k n : Nat) (ky : Nat → Int) (L : List Nat) (h : Hp w q tv p k n ky L) :
    Calls Tryd.prog 19 #[.pointer (some ⟨q, 0, none⟩)] w fun e w' => e = .returned (.int .i64 L.length) ∧ w' = w := by
  obtain ⟨a, c, hv, _⟩ := h.own.len
  exact tLen_raw w q a _ c (by rw [h.c0, hv])

set_option maxHeartbeats 1000000 in
set_option maxRecDepth 100000 in
theorem tLess_raw (w : World) (q g cap l k i j n : Nat) (a b : Nat) (x y : Int) (c0 : w.cell? ⟨q, 0, none⟩ = some (.slice (some ⟨g, 0, none⟩) l cap)) (c2 : w.cell? ⟨q, 2, none⟩ = some (.slice (some ⟨k, 0, none⟩) n n))
    (hi : i < l) (hj : j < l) (ha : a < n) (hb : b < n) (ga : w.cell? ⟨g, i, none⟩ = some (.int .i64 (a : Int))) (gb : w.cell? ⟨g, j, none⟩ = some (.int .i64 (b : Int))) (ka : w.cell? ⟨k, a, none⟩ = some (.int .i64 x)) (kb : w.cell? ⟨k, b, none⟩ = some (.int .i64 y)) :
    Calls Tryd.prog 52 #[.pointer (some ⟨q, 0, none⟩), .int .i64 i, .int .i64 j] w fun e w' => e = .returned (.bool (if x = y then decide ((a : Int) < (b : Int)) else decide (x < y))) ∧ Below w.heap.size w w' := by
  have ei : (i : Int) < (l : Int) := by omega
  have ej : (j : Int) < (l : Int) := by omega
  have ea : (a : Int) < (n : Int) := by omega
  have eb : (b : Int) < (n : Int) := by omega
  by_cases t : x = y
  · subst t
    rw [if_pos rfl]
    go_enter Tryd.func52, Tryd.ntmps52
    go_wp2_with fail
    go_quiet (fail)
    go_wp2_with fail
    go_quiet (fail)
    go_wp2_with fail
    all_goals go_ret
    all_goals refine ⟨?_, Below.drewN (Below.refl _ _) _⟩
    all_goals first | rfl | simp
  · rw [if_neg t]
    go_enter Tryd.func52, Tryd.ntmps52
    go_wp2_with fail
    go_quiet (fail)
    go_wp2_with fail
    go_quiet (fail)
    go_wp2_with fail
    go_quiet (fail)
    go_wp2_with fail
    all_goals go_ret
    all_goals first | exact ⟨rfl, Below.drewN (Below.drewN (Below.refl _ _) _) _⟩ | exact ⟨rfl, Below.drewN (Below.drewN (Below.drewN (Below.refl _ _) _) _) _⟩
/-- Two compared. -/
theorem tLess_any (w : World) (q : Nat) (tv : Value) (p k n : Nat) (ky : Nat → Int) (L : List Nat) (h : Hp w q tv p k n ky L) (i j : Nat) (x y : Int) (hi : i < L.length) (hj : j < L.length) (hx : x = i) (hy : y = j) :
    Calls Tryd.prog 52 #[.pointer (some ⟨q, 0, none⟩), .int .i64 x, .int .i64 y] w fun e w' => e = .returned (.bool (decide (lt ky L[i]! L[j]!))) ∧ Below w.heap.size w w' := by
  subst hx hy
  obtain ⟨g, cap, rfl, hr, _⟩ := h.th (by omega)
  have ha := h.bd _ (at_mem hi)
  have hb := h.bd _ (at_mem hj)
  refine (tLess_raw w q g cap _ k i j n _ _ _ _ h.c0 h.c2 hi hj ha hb (hr.c i hi) (hr.c j hj) (h.kys.c _ ha) (h.kys.c _ hb)).mono ?_
  rintro e w' ⟨rfl, hb⟩
  refine ⟨?_, hb⟩
  by_cases t : ky L[i]! = ky L[j]!
  · rw [if_pos t]
    exact congrArg (fun b => Ending.returned (.bool b)) (decide_eq_decide.2 (by rw [lt_eq t]; omega))
  · rw [if_neg t]
    exact congrArg (fun b => Ending.returned (.bool b)) (decide_eq_decide.2 (by rw [lt_ne t]))

theorem set_far (w : World) (b o c o' : Nat) (v : Value) (h : b ≠ c) : (w.setCell ⟨c, o', none⟩ v).cell? ⟨b, o, none⟩ = w.cell? ⟨b, o, none⟩ :=
  World.cell?_of_block (w := w) (a := ⟨b, o, none⟩) (Below.heap_setCell _ _ _ _ h)
theorem set_same (w : World) (b o : Nat) (v u : Value) (h : w.cell? ⟨b, o, none⟩ = some u) : (w.setCell ⟨b, o, none⟩ v).cell? ⟨b, o, none⟩ = some v := World.cell?_setCell_same _ _ _ h
theorem set_ne (w : World) (b o o' : Nat) (v : Value) (h : o ≠ o') : (w.setCell ⟨b, o', none⟩ v).cell? ⟨b, o, none⟩ = w.cell? ⟨b, o, none⟩ :=
  World.cell?_setCell_other _ _ _ _ (by intro e; simp only [Addr.mk.injEq, and_true] at e; omega)
theorem set_fz (w : World) (a b : Addr) (v : Value) : (w.setCell a v).frozen? b = w.frozen? b := World.frozen?_setCell _ _ _ _

set_option maxHeartbeats 2000000 in
set_option maxRecDepth 100000 in
theorem tSwap_raw (w : World) (q g cap l p i j n : Nat) (a b : Nat) (c0 : w.cell? ⟨q, 0, none⟩ = some (.slice (some ⟨g, 0, none⟩) l cap)) (c1 : w.cell? ⟨q, 1, none⟩ = some (.slice (some ⟨p, 0, none⟩) n n))
    (hi : i < l) (hj : j < l) (ha : a < n) (hb : b < n) (ga : w.cell? ⟨g, i, none⟩ = some (.int .i64 (a : Int))) (gb : w.cell? ⟨g, j, none⟩ = some (.int .i64 (b : Int))) (fg : ∀ o, w.frozen? ⟨g, o, none⟩ = false) (fp : ∀ o, w.frozen? ⟨p, o, none⟩ = false)
    (va vb : Value) (hpa : w.cell? ⟨p, a, none⟩ = some va) (hpb : w.cell? ⟨p, b, none⟩ = some vb) (gq : g ≠ q) (gp : g ≠ p) (pq : p ≠ q) (hij : i ≠ j) (hab : a ≠ b) :
    Calls Tryd.prog 55 #[.pointer (some ⟨q, 0, none⟩), .int .i64 i, .int .i64 j] w fun e w' => e = .returned (.tuple #[]) ∧ w' = ((((((w.setCell ⟨g, i, none⟩ (.int .i64 (b : Int))).setCell ⟨g, j, none⟩ (.int .i64 (a : Int))).drew).setCell ⟨p, b, none⟩ (.int .i64 (i : Int))).drew).setCell ⟨p, a, none⟩ (.int .i64 (j : Int))).drew := by
  have ei : (i : Int) < (l : Int) := by omega
  have ej : (j : Int) < (l : Int) := by omega
  have ea : (a : Int) < (n : Int) := by omega
  have eb : (b : Int) < (n : Int) := by omega
  have fi := fg i
  have fj := fg j
  have k1 := set_if w g j i (.int .i64 (b : Int)) _ gb
  obtain ⟨w1, hw1⟩ : ∃ w1, w1 = ((w.setCell ⟨g, i, none⟩ (.int .i64 (b : Int))).setCell ⟨g, j, none⟩ (.int .i64 (a : Int))).drew := ⟨_, rfl⟩
  have d0 : w1.cell? ⟨q, 0, none⟩ = some (.slice (some ⟨g, 0, none⟩) l cap) := by rw [hw1]; exact (set_far _ q 0 g j _ gq.symm).trans ((set_far _ q 0 g i _ gq.symm).trans c0)
  have d1 : w1.cell? ⟨q, 1, none⟩ = some (.slice (some ⟨p, 0, none⟩) n n) := by rw [hw1]; exact (set_far _ q 1 g j _ gq.symm).trans ((set_far _ q 1 g i _ gq.symm).trans c1)
  have da : w1.cell? ⟨p, a, none⟩ = some va := by rw [hw1]; exact (set_far _ p a g j _ gp.symm).trans ((set_far _ p a g i _ gp.symm).trans hpa)
  have db : w1.cell? ⟨p, b, none⟩ = some vb := by rw [hw1]; exact (set_far _ p b g j _ gp.symm).trans ((set_far _ p b g i _ gp.symm).trans hpb)
  have di : w1.cell? ⟨g, i, none⟩ = some (.int .i64 (b : Int)) := by rw [hw1]; exact (set_ne _ g i j _ hij).trans (set_same w g i _ _ ga)
  have dj : w1.cell? ⟨g, j, none⟩ = some (.int .i64 (a : Int)) := by rw [hw1]; exact set_same _ g j _ _ ((set_ne _ g j i _ hij.symm).trans gb)
  have fa1 : w1.frozen? ⟨p, a, none⟩ = false := by rw [hw1]; exact (set_fz _ _ _ _).trans ((set_fz _ _ _ _).trans (fp a))
  have fb1 : w1.frozen? ⟨p, b, none⟩ = false := by rw [hw1]; exact (set_fz _ _ _ _).trans ((set_fz _ _ _ _).trans (fp b))
  obtain ⟨w2, hw2⟩ : ∃ w2, w2 = (w1.setCell ⟨p, b, none⟩ (.int .i64 (i : Int))).drew := ⟨_, rfl⟩
  have HE : Hid (w2 = (w1.setCell ⟨p, b, none⟩ (.int .i64 (i : Int))).drew) := Lib.hid hw2
  have HD : Hid (w1 = ((w.setCell ⟨g, i, none⟩ (.int .i64 (b : Int))).setCell ⟨g, j, none⟩ (.int .i64 (a : Int))).drew) := Lib.hid hw1
  have e0 := (set_far w1 q 0 p b (.int .i64 (i : Int)) pq.symm).trans d0
  have e1 := (set_far w1 q 1 p b (.int .i64 (i : Int)) pq.symm).trans d1
  have ej2 := (set_far w1 g j p b (.int .i64 (i : Int)) gp).trans dj
  have ea2 := (set_ne w1 p a b (.int .i64 (i : Int)) hab).trans da
  have ef2 := (set_fz w1 ⟨p, b, none⟩ ⟨p, a, none⟩ (.int .i64 (i : Int))).trans fa1
  have H2 : Hid (w2.cell? ⟨q, 0, none⟩ = some (.slice (some ⟨g, 0, none⟩) l cap) ∧ w2.cell? ⟨q, 1, none⟩ = some (.slice (some ⟨p, 0, none⟩) n n) ∧ w2.cell? ⟨g, j, none⟩ = some (.int .i64 (a : Int)) ∧ w2.cell? ⟨p, a, none⟩ = some va ∧ w2.frozen? ⟨p, a, none⟩ = false) := Lib.hid (by rw [hw2]; exact ⟨e0, e1, ej2, ea2, ef2⟩)
  have H1 := Lib.hid (And.intro d0 (And.intro d1 (And.intro db (And.intro di fb1))))
  clear fg fp hpa hpb hw1 hw2 e0 e1 ej2 ea2 ef2 d0 d1 da db di dj fa1 fb1
  go_enter Tryd.func55, Tryd.ntmps55
  go_wp2_with fail
  go_region
  rw [← HD.out]
  clear c0 c1 ga gb k1 fi fj
  obtain ⟨d0, d1, db, di, fb1⟩ := H1.out
  clear H1
  go_wp2_with fail
  go_region
  rw [← HE.out]
  clear d0 d1 db di fb1
  obtain ⟨d0, d1, dj, da, fa1⟩ := H2.out
  clear H2
  go_wp2_with fail
  go_region
  go_end0
  exact ⟨rfl, by rw [HE.out, HD.out]⟩
end Go.Proofs.YtmfajaalbklfeaaDoor
