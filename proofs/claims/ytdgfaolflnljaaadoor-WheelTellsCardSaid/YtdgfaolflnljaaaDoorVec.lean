/-
  A LIST OF NUMBERS that a call has laid in a block of its own.
-/
import Derived.Test.YtdgfaolflnljaaaDoorIntList
import Derived.Test.YtdgfaolflnljaaaDoorGrid
namespace Go.Proofs.YtdgfaolflnljaaaDoor
open Go.RowKit

/-- Block g holds the n numbers of d. -/
structure Vec (w : World) (g n : Nat) (d : Nat → Int) : Prop where
  lt : g < w.heap.size
  c : ∀ i, i < n → w.cell? ⟨g, i, none⟩ = some (.int .i64 (d i))
  f : ∀ i, w.frozen? ⟨g, i, none⟩ = false
theorem Vec.below {w w1 : World} {g n m : Nat} {d : Nat → Int} (h : Vec w g n d) (hb : Below m w w1) (hm : g < m) : Vec w1 g n d :=
  ⟨Nat.lt_of_lt_of_le h.lt hb.size, fun i hi => (hb.cell (p := ⟨g, i, none⟩) hm).trans (h.c i hi), fun i => (hb.frozen (p := ⟨g, i, none⟩) hm).trans (h.f i)⟩
theorem Vec.keep {w w1 : World} {g n : Nat} {d : Nat → Int} (h : Vec w g n d) (hb : Below w.heap.size w w1) : Vec w1 g n d := h.below hb h.lt
theorem Vec.drew {w : World} {g n : Nat} {d : Nat → Int} (h : Vec w g n d) : Vec w.drew g n d := ⟨h.lt, h.c, h.f⟩
theorem Vec.congr {w : World} {g n : Nat} {d d' : Nat → Int} (h : Vec w g n d) (e : ∀ i, i < n → d i = d' i) : Vec w g n d' :=
  ⟨h.lt, fun i hi => by rw [← e i hi]; exact h.c i hi, h.f⟩
/-- One number written anew. -/
theorem Vec.set {w : World} {g n : Nat} {d : Nat → Int} (h : Vec w g n d) (p : Nat) (x : Int) : Vec (w.setCell ⟨g, p, none⟩ (.int .i64 x)) g n (fun i => if i = p then x else d i) := by
  refine ⟨by simpa [World.setCell] using h.lt, fun i hi => ?_, fun i => by rw [World.frozen?_setCell]; exact h.f i⟩
  rw [set_if w g i p _ _ (h.c i hi)]
  by_cases e : i = p
  · rw [if_pos e, if_pos e]
  · rw [if_neg e, if_neg e]
/-- Made just now. -/
theorem Vec.made (w : World) (n : Nat) (T : TypeId) : Vec (w.alloc (.cells (madeCells #[.int .i64 0] n) T)) w.heap.size n (fun _ => 0) :=
  ⟨by simp, fun i hi => made_cell w _ n i T hi, fun i => by rw [frozen?_alloc_cells]; exact frozen_past _ _ (Nat.le_refl _)⟩
theorem Vec.seen {w : World} {g n : Nat} {d : Nat → Int} (h : Vec w g n d) : SeenI w g 0 ((List.range n).map d) := fun i hi => by
  have hi' : i < n := by simpa using hi
  rw [Nat.zero_add, h.c i hi', getElem!_pos _ i hi]
  simp
theorem Vec.arg {w : World} {g n : Nat} {d : Nat → Int} (h : Vec w g n d) : ArgI w (.slice (some ⟨g, 0, none⟩) n n) ((List.range n).map d) :=
  ⟨_, n, by simp, Or.inr ⟨g, 0, rfl, h.lt, h.seen⟩⟩
end Go.Proofs.YtdgfaolflnljaaaDoor
