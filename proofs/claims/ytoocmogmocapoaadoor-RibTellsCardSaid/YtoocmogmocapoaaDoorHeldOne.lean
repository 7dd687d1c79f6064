/-
  PLAIN FACTS on worlds: one block of two cells, kept by a draw and by a call.
-/
import Derived.Test.YtoocmogmocapoaaDoorBoxes
namespace Go.Proofs.YtoocmogmocapoaaDoor
open Go.RowKit

/-- One block: its cells, and that nothing below has turned: kept by a draw and by a call. -/
theorem held1 {w0 w w1 : World} {b : Nat} {x y : Value} (h : w.cell? ⟨b, 0, none⟩ = some x ∧ w.cell? ⟨b, 1, none⟩ = some y ∧ Below w0.heap.size w0 w) (hb : Below w.heap.size w w1) :
    w1.cell? ⟨b, 0, none⟩ = some x ∧ w1.cell? ⟨b, 1, none⟩ = some y ∧ Below w0.heap.size w0 w1 := by
  obtain ⟨h1, h2, h3⟩ := h
  have l1 : b < w.heap.size := World.block_lt_of_cell? _ _ h1
  exact ⟨(hb.cell (p := ⟨b, 0, none⟩) l1).trans h1, (hb.cell (p := ⟨b, 1, none⟩) l1).trans h2, Below.two h3 hb⟩
end Go.Proofs.YtoocmogmocapoaaDoor
