/-
  ROWS as a call has laid them, read.
-/
import Derived.Test.YtomfkmclgabcpaaDoorGrid
import Derived.Test.YtomfkmclgabcpaaDoorRowSeen
namespace Go.Proofs.YtomfkmclgabcpaaDoor
open Go.RowKit Go.Lib

/-- The rows of n nodes. -/
def rowsF (n : Nat) (f : Nat → Nat → Int) : List (List Int) := (List.range n).map fun i => (List.range n).map fun j => f i j
theorem rowsF_len (n : Nat) (f : Nat → Nat → Int) : (rowsF n f).length = n := by simp [rowsF]
theorem rowsF_at (n : Nat) (f : Nat → Nat → Int) (i : Nat) (h : i < n) : (rowsF n f)[i]! = (List.range n).map fun j => f i j := by
  rw [getElem!_pos (rowsF n f) i (by rw [rowsF_len]; exact h)]
  simp [rowsF]
theorem rowsF_row (n : Nat) (f : Nat → Nat → Int) : ∀ r ∈ rowsF n f, r.length = n := by
  intro r hr
  simp only [rowsF, List.mem_map] at hr
  obtain ⟨i, _, rfl⟩ := hr
  simp
theorem Grid.row_arg {w : World} {g n : Nat} {f : Nat → Nat → Int} (h : Grid w g n n f) (i : Nat) (hi : i < n) : ArgI w (.slice (some ⟨g + 1 + i, 0, none⟩) n n) ((List.range n).map fun j => f i j) := by
  refine ⟨_, n, by simp, Or.inr ⟨g + 1 + i, 0, rfl, ?_, fun j hj => ?_⟩⟩
  · have := h.lt; omega
  · have hj' : j < n := by simpa using hj
    rw [Nat.zero_add, h.e i hi j hj', getElem!_pos _ j hj]
    simp
theorem Grid.arg {w : World} {g n : Nat} {f : Nat → Nat → Int} (h : Grid w g n n f) : ArgR w (.slice (some ⟨g, 0, none⟩) n n) (rowsF n f) := by
  refine ⟨_, n, by rw [rowsF_len], Or.inr ⟨g, 0, rfl, ?_, fun i hi => ?_⟩⟩
  · have := h.lt; omega
  · rw [rowsF_len] at hi
    refine ⟨.slice (some ⟨g + 1 + i, 0, none⟩) n n, ?_, ?_⟩
    · rw [Nat.zero_add]; exact h.o i hi
    · rw [rowsF_at n f i hi]; exact h.row_arg i hi
end Go.Proofs.YtomfkmclgabcpaaDoor
