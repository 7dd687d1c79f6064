/-
  Two appends one after the other: a list of bytes copied into a new slice, then more bytes behind it.
-/
import Derived.Test.YteeilmigedhjmaaBytArg
namespace Go.Proofs.Yteeilmigedhjmaa
open Go.RowKit

/-- An empty slice, made anew. -/
theorem OwnB.empty (w : World) : OwnB (w.alloc (.cells #[] 5)) w.heap.size (.slice (some ⟨w.heap.size, 0, none⟩) 0 0) [] :=
  OwnB.made w w.heap.size [] #[] rfl (Nat.le_refl _) (by decide)
theorem below_alloc (w : World) (cs : Array Value) (T : TypeId) : Below w.heap.size w (w.alloc (.cells cs T)) := (Below.refl _ w).alloc (Nat.le_refl _) _
theorem laidB (w : World) (l : List Nat) (cs : Array Value) (T : TypeId) (hc : cs.toList = cellsB l) : ∀ j u, (cellsB l)[j]? = some u → (w.alloc (.cells cs T)).cell? ((⟨w.heap.size, 0, none⟩ : Addr).add j) = some u := by
  intro j u hj
  rw [Addr.add_lit, ← hc] at *
  simp only [World.cell?, heap_alloc_new, Nat.zero_add]
  simpa using hj
end Go.Proofs.Yteeilmigedhjmaa
