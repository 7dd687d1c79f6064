/-
  A slice with room for what it holds.
-/
import Derived.Test.YtoocmogmocapoaaIntList
namespace Go.Proofs.Ytoocmogmocapoaa
open Go.RowKit

/-- What the slice holds fits into its room. -/
def Room (v : Value) : Prop := ∃ p n c, v = .slice p n c ∧ n ≤ c
theorem OwnI.room {w : World} {base : Nat} {v : Value} {l : List Int} (h : OwnI w base v l) : Room v := by
  obtain ⟨_, ⟨hv, hn⟩ | ⟨g, cap, cur, hv, hb, hg, hcap, _⟩⟩ := h
  · exact ⟨none, 0, 0, hv, Nat.le_refl _⟩
  · exact ⟨_, _, cap, hv, hcap⟩
theorem Room.le {p : Option Addr} {n c : Nat} (h : Room (.slice p n c)) : n ≤ c := by
  obtain ⟨_, _, _, e, h⟩ := h
  injection e with _ e1 e2
  omega
/-- A list without its first number. -/
theorem SeenI.tail {w : World} {b off i : Nat} {l : List Int} (h : SeenI w b off l) (hb : b < w.heap.size) (hl : l.length = i + 1) (c : Nat) : ArgI w (.slice (some ⟨b, off + 1, none⟩) i c) (l.drop 1) := by
  have e : (l.drop 1).length = i := by rw [List.length_drop]; omega
  refine ⟨_, c, by rw [e], Or.inr ⟨b, off + 1, rfl, hb, fun j hj => ?_⟩⟩
  rw [e] at hj
  have := h (j + 1) (by omega)
  rw [show off + (j + 1) = off + 1 + j by omega] at this
  rw [this, getElem!_pos l (j + 1) (by omega), getElem!_pos (l.drop 1) j (by omega), List.getElem_drop]
  congr 3
  simp [Nat.add_comm]
/-- One number in a block of the call's own. -/
theorem OwnI.one (w : World) (base : Nat) (x : Int) (hb : base ≤ w.heap.size) : OwnI (w.alloc (.cells #[.int .i64 x] 3)) base (.slice (some ⟨w.heap.size, 0, none⟩) 1 1) [x] :=
  ⟨by simp [cellsI], Or.inr ⟨w.heap.size, 1, #[.int .i64 x], rfl, hb, heap_alloc_new w _, Nat.le_refl _, by simp [maxLen], by simp, by simp [cellsI]⟩⟩
end Go.Proofs.Ytoocmogmocapoaa
