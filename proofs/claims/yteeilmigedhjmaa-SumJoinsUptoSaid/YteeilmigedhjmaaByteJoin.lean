/-
  Two appends one after the other: a list of bytes copied into a new slice, then more bytes behind it.
-/
import Derived.Test.YteeilmigedhjmaaBytArg
namespace Go.Proofs.Yteeilmigedhjmaa
open Go.RowKit

/-- An empty slice, made anew. -/
theorem OwnB.empty (w : World) : OwnB (w.alloc (.cells #[] 5)) w.heap.size (.slice (some ⟨w.heap.size, 0, none⟩) 0 0) [] :=
  OwnB.made w w.heap.size [] #[] rfl (Nat.le_refl _) (by decide)
theorem below_alloc (w : World) (cs : Array Value) (T : TypeId) : Below w.heap.size w (w.alloc (.cells cs T)) := (Below.refl _ w).alloc (Nat.le_refl _) _
end Go.Proofs.Yteeilmigedhjmaa
