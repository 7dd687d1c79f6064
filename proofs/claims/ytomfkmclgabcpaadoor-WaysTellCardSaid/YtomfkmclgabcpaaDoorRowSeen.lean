/-
  ROWS of numbers in memory, to be read.
-/
import Derived.Test.YtomfkmclgabcpaaDoorSameInts
import Derived.StillTailTactics
namespace Go.Proofs.YtomfkmclgabcpaaDoor
open Go.RowKit Go.Lib

/-- Rows that lie at a place, to be read. -/
def SeenR (w : World) (b off : Nat) (M : List (List Int)) : Prop := ∀ i, i < M.length → ∃ v, w.cell? ⟨b, off + i, none⟩ = some v ∧ ArgI w v M[i]!
theorem SeenR.below {w w1 : World} {b off : Nat} {M : List (List Int)} (h : SeenR w b off M) (hb : Below w.heap.size w w1) (hn : b < w.heap.size) : SeenR w1 b off M := fun i hi => by
  obtain ⟨v, h1, h2⟩ := h i hi
  exact ⟨v, (hb.cell (p := ⟨b, off + i, none⟩) hn).trans h1, h2.below hb⟩
/-- A value that is such a list of rows. -/
def ArgR (w : World) (v : Value) (M : List (List Int)) : Prop := ∃ p c, v = .slice p M.length c ∧ (M = [] ∨ ∃ b off, p = some ⟨b, off, none⟩ ∧ b < w.heap.size ∧ SeenR w b off M)
theorem ArgR.below {w w1 : World} {v : Value} {M : List (List Int)} (h : ArgR w v M) (hb : Below w.heap.size w w1) : ArgR w1 v M := by
  obtain ⟨p, c, hv, h⟩ := h
  refine ⟨p, c, hv, ?_⟩
  rcases h with h | ⟨b, off, hp, hlt, hs⟩
  · exact Or.inl h
  · exact Or.inr ⟨b, off, hp, Nat.lt_of_lt_of_le hlt hb.size, hs.below hb hlt⟩

end Go.Proofs.YtomfkmclgabcpaaDoor
