/-
  PLAIN FACTS on worlds in which one, two or three blocks of two cells were laid just now: a call that turns nothing below leaves them as they are.
-/
import Derived.Test.YtoocmogmocapoaaDoorProg
import Derived.WalkKit
import Derived.Below
import Derived.Lib.Hide
namespace Go.Proofs.YtoocmogmocapoaaDoor
open Go.RowKit

theorem Below.two {w w1 w2 : World} (h1 : Below w.heap.size w w1) (h2 : Below w1.heap.size w1 w2) : Below w.heap.size w w2 := h1.trans (h2.mono h1.size)
theorem Below.three {w w1 w2 w3 : World} (h1 : Below w.heap.size w w1) (h2 : Below w1.heap.size w1 w2) (h3 : Below w2.heap.size w2 w3) : Below w.heap.size w w3 := Below.two (Below.two h1 h2) h3

/-- A block of two cells: whole, not frozen. -/
structure Box (w : World) (b : Nat) (x y : Value) : Prop where
  lt : b < w.heap.size
  c0 : w.cell? ⟨b, 0, none⟩ = some x
  c1 : w.cell? ⟨b, 1, none⟩ = some y
  f0 : w.frozen? ⟨b, 0, none⟩ = false
  f1 : w.frozen? ⟨b, 1, none⟩ = false
theorem Box.below {w w1 : World} {b n : Nat} {x y : Value} (h : Box w b x y) (hb : Below n w w1) (hn : b < n) : Box w1 b x y :=
  ⟨Nat.lt_of_lt_of_le h.lt hb.size, (hb.cell (p := ⟨b, 0, none⟩) hn).trans h.c0, (hb.cell (p := ⟨b, 1, none⟩) hn).trans h.c1,
    (hb.frozen (p := ⟨b, 0, none⟩) hn).trans h.f0, (hb.frozen (p := ⟨b, 1, none⟩) hn).trans h.f1⟩
theorem Box.kept {w w1 : World} {b : Nat} {x y : Value} (h : Box w b x y) (hb : Below w.heap.size w w1) : Box w1 b x y := h.below hb h.lt
theorem Box.new (w : World) (x y : Value) (T : TypeId) : Box (w.alloc (.cells #[x, y] T)) w.heap.size x y :=
  ⟨by simp, by simp, by simp, by simp, by simp⟩
theorem Box.alloc {w : World} {b : Nat} {x y : Value} (h : Box w b x y) (o : Obj) : Box (w.alloc o) b x y :=
  h.below ((Below.refl _ _).alloc (Nat.le_refl _) _) h.lt
/-- Both cells of a block written anew. -/
theorem Box.set {w : World} {b : Nat} {x y : Value} (h : Box w b x y) (x' y' : Value) : Box ((w.setCell ⟨b, 0, none⟩ x').setCell ⟨b, 1, none⟩ y') b x' y' :=
  ⟨by simpa using h.lt, by
      rw [World.cell?_setCell_other _ _ _ _ (by simp)]
      exact World.cell?_setCell_same _ _ _ h.c0, World.cell?_setCell_same _ _ _ ((World.cell?_setCell_other _ _ _ _ (by simp)).trans h.c1), by simp [h.f0], by simp [h.f1]⟩
/-- Another block, further on, written anew. -/
theorem Box.other {w : World} {b c : Nat} {x y : Value} (h : Box w b x y) (hc : b < c) (x' y' : Value) : Box ((w.setCell ⟨c, 0, none⟩ x').setCell ⟨c, 1, none⟩ y') b x y :=
  h.below (n := c) (((Below.refl c w).setCell (p := ⟨c, 0, none⟩) (Nat.le_refl c) x').setCell (p := ⟨c, 1, none⟩) (Nat.le_refl c) y') hc
/-- One block laid, then a call. -/
theorem box1 {w w1 : World} {x y : Value} {T : TypeId} (hb : Below (w.alloc (.cells #[x, y] T)).heap.size (w.alloc (.cells #[x, y] T)) w1) : Box w1 w.heap.size x y ∧ Below w.heap.size w w1 :=
  ⟨(Box.new w x y T).kept hb, ((Below.refl _ w).alloc (Nat.le_refl _) _).trans (hb.mono (by simp))⟩
theorem box1d {w w1 : World} {x y : Value} {T : TypeId} (hb : Below (w.alloc (.cells #[x, y] T)).drew.heap.size (w.alloc (.cells #[x, y] T)).drew w1) : Box w1 w.heap.size x y ∧ Below w.heap.size w w1 :=
  box1 ((Below.refl _ (w.alloc (.cells #[x, y] T))).drew.trans hb)
/-- Two blocks laid, then a call. -/
theorem box2 {w w1 : World} {x y x' y' : Value} {T T' : TypeId} (hb : Below ((w.alloc (.cells #[x, y] T)).alloc (.cells #[x', y'] T')).heap.size ((w.alloc (.cells #[x, y] T)).alloc (.cells #[x', y'] T')) w1) :
    Box w1 w.heap.size x y ∧ Box w1 (w.heap.size + 1) x' y' ∧ Below w.heap.size w w1 := by
  refine ⟨((Box.new w x y T).alloc _).kept hb, ?_, ((Below.refl _ w).alloc (Nat.le_refl _) _ |>.alloc (by simp) _).trans (hb.mono (by simp; omega))⟩
  have := (Box.new (w.alloc (.cells #[x, y] T)) x' y' T').kept hb
  simpa using this
/-- Three blocks laid, then a call. -/
theorem box3 {w w1 : World} {x y x' y' x'' y'' : Value} {T T' T'' : TypeId} (hb : Below (((w.alloc (.cells #[x, y] T)).alloc (.cells #[x', y'] T')).alloc (.cells #[x'', y''] T'')).heap.size (((w.alloc (.cells #[x, y] T)).alloc (.cells #[x', y'] T')).alloc (.cells #[x'', y''] T'')) w1) :
    Box w1 w.heap.size x y ∧ Box w1 (w.heap.size + 1) x' y' ∧ Box w1 (w.heap.size + 1 + 1) x'' y'' ∧ Below w.heap.size w w1 := by
  refine ⟨(((Box.new w x y T).alloc _).alloc _).kept hb, ?_, ?_, (((Below.refl _ w).alloc (Nat.le_refl _) _ |>.alloc (by simp) _).alloc (by simp; omega) _).trans (hb.mono (by simp; omega))⟩
  · have := ((Box.new (w.alloc (.cells #[x, y] T)) x' y' T').alloc (.cells #[x'', y''] T'')).kept hb
    simpa using this
  · have := (Box.new ((w.alloc (.cells #[x, y] T)).alloc (.cells #[x', y'] T')) x'' y'' T'').kept hb
    simpa using this
/-- Three blocks, one behind the other: their cells, and that nothing below has turned: kept by a draw and by a call. -/
theorem held3 {w0 w w1 : World} {b : Nat} {x y x' y' x'' y'' : Value} (h : w.cell? ⟨b, 0, none⟩ = some x ∧ w.cell? ⟨b, 1, none⟩ = some y ∧ w.cell? ⟨b + 1, 0, none⟩ = some x' ∧ w.cell? ⟨b + 1, 1, none⟩ = some y' ∧ w.cell? ⟨b + 1 + 1, 0, none⟩ = some x'' ∧ w.cell? ⟨b + 1 + 1, 1, none⟩ = some y'' ∧ Below w0.heap.size w0 w) (hb : Below w.heap.size w w1) :
    w1.cell? ⟨b, 0, none⟩ = some x ∧ w1.cell? ⟨b, 1, none⟩ = some y ∧ w1.cell? ⟨b + 1, 0, none⟩ = some x' ∧ w1.cell? ⟨b + 1, 1, none⟩ = some y' ∧ w1.cell? ⟨b + 1 + 1, 0, none⟩ = some x'' ∧ w1.cell? ⟨b + 1 + 1, 1, none⟩ = some y'' ∧ Below w0.heap.size w0 w1 := by
  obtain ⟨h1, h2, h3, h4, h5, h6, h7⟩ := h
  have l1 : b < w.heap.size := World.block_lt_of_cell? _ _ h1
  have l2 : b + 1 < w.heap.size := World.block_lt_of_cell? _ _ h3
  have l3 : b + 1 + 1 < w.heap.size := World.block_lt_of_cell? _ _ h5
  exact ⟨(hb.cell (p := ⟨b, 0, none⟩) l1).trans h1, (hb.cell (p := ⟨b, 1, none⟩) l1).trans h2, (hb.cell (p := ⟨b + 1, 0, none⟩) l2).trans h3, (hb.cell (p := ⟨b + 1, 1, none⟩) l2).trans h4, (hb.cell (p := ⟨b + 1 + 1, 0, none⟩) l3).trans h5, (hb.cell (p := ⟨b + 1 + 1, 1, none⟩) l3).trans h6, Below.two h7 hb⟩
theorem set_if (w : World) (b o o' : Nat) (v u : Value) (h : w.cell? ⟨b, o, none⟩ = some u) : (w.setCell ⟨b, o', none⟩ v).cell? ⟨b, o, none⟩ = some (if o = o' then v else u) := by
  by_cases e : o = o'
  · subst e; rw [if_pos rfl]; exact World.cell?_setCell_same _ _ _ h
  · rw [if_neg e, World.cell?_setCell_other _ _ _ _ (by intro h; simp only [Addr.mk.injEq, and_true] at h; omega)]; exact h
end Go.Proofs.YtoocmogmocapoaaDoor
