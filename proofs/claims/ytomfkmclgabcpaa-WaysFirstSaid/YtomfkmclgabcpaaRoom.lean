/-
  A slice with room for what it holds.
-/
import Derived.Test.YtomfkmclgabcpaaIntList
namespace Go.Proofs.Ytomfkmclgabcpaa
open Go.RowKit

/-- What the slice holds fits into its room. -/
def Room (v : Value) : Prop := ∃ p n c, v = .slice p n c ∧ n ≤ c
theorem OwnI.room {w : World} {base : Nat} {v : Value} {l : List Int} (h : OwnI w base v l) : Room v := by
  obtain ⟨_, ⟨hv, hn⟩ | ⟨g, cap, cur, hv, hb, hg, hcap, _⟩⟩ := h
  · exact ⟨none, 0, 0, hv, Nat.le_refl _⟩
  · exact ⟨_, _, cap, hv, hcap⟩
/-- One number in a block of the call's own. -/
theorem OwnI.one (w : World) (base : Nat) (x : Int) (hb : base ≤ w.heap.size) : OwnI (w.alloc (.cells #[.int .i64 x] 3)) base (.slice (some ⟨w.heap.size, 0, none⟩) 1 1) [x] :=
  ⟨by simp [cellsI], Or.inr ⟨w.heap.size, 1, #[.int .i64 x], rfl, hb, heap_alloc_new w _, Nat.le_refl _, by simp [maxLen], by simp, by simp [cellsI]⟩⟩
end Go.Proofs.Ytomfkmclgabcpaa
