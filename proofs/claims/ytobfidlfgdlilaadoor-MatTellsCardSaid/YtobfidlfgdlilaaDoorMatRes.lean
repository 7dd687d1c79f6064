/-
  What mat.Mul and mat.Star tell of whatever they are handed; the form of an argument that is a table.
-/
import Derived.Test.YtobfidlfgdlilaaDoorMatMul
namespace Go.Proofs.YtobfidlfgdlilaaDoor
open Go.RowKit

/-- mat.Mul at any two lists of rows. -/
theorem mul_res (w : World) (v v' : Value) (M M' : List (List Int)) (h : ArgR w v M) (h' : ArgR w v' M') :
    Calls Tryd.prog 12 #[v, v'] w fun e w' => ∃ u x, e = .returned (.tuple #[u, x]) ∧ Below w.heap.size w w' := by
  by_cases hg : mulBad M M' = 0
  · obtain ⟨n, A, B, h1, h8, hA, hB, rfl, rfl⟩ := mul_tab hg
    refine (mul_ok w v v' n A B h1 h8 hA hB h h').mono ?_
    rintro e w' ⟨g, _, rfl, _, hb⟩
    exact ⟨_, _, rfl, hb⟩
  · refine (mul_bad w v v' M M' h h' hg).mono ?_
    rintro e w' ⟨rfl, rfl⟩
    exact ⟨_, _, rfl, Below.refl _ _⟩
theorem tab_form {w : World} {v : Value} {n : Nat} {A : MatP.T} (h : ArgR w v (rowsN n A)) : ∃ p c, v = .slice p n c := by
  obtain ⟨p, c, rfl, _⟩ := h
  exact ⟨p, c, by rw [rowsN_len]⟩
end Go.Proofs.YtobfidlfgdlilaaDoor
