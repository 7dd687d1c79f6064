/-
  PLAIN FACTS (of no program) on the scans of a partition, step by step.
-/
import Derived.Test.YtoocmogmocapoaaDoorSortRow
namespace Go.Proofs.YtoocmogmocapoaaDoor
variable {E : Type} [Inhabited E]

section
variable (p : E → Bool) (d : Array E)
theorem scanUp_on (j i : Nat) (h : i ≤ j) (hp : p d[i]! = true) : Go.Sort.scanUp p d j i = Go.Sort.scanUp p d j (i + 1) := by
  rw [Go.Sort.scanUp, if_pos (by rw [decide_eq_true h, hp]; rfl)]
theorem scanUp_out (j i : Nat) (h : ¬ i ≤ j ∨ p d[i]! = false) : Go.Sort.scanUp p d j i = i := by
  rw [Go.Sort.scanUp, if_neg]
  rcases h with h | h
  · rw [decide_eq_false h]; exact Bool.noConfusion
  · rw [h, Bool.and_false]; exact Bool.noConfusion
theorem scanDown_on (i j : Nat) (hi : 1 ≤ i) (h : i ≤ j) (hp : p d[j]! = true) : Go.Sort.scanDown p d i j = Go.Sort.scanDown p d i (j - 1) := by
  obtain ⟨k, rfl⟩ : ∃ k, j = k + 1 := ⟨j - 1, by omega⟩
  rw [Go.Sort.scanDown, if_pos (by rw [decide_eq_true h, hp]; rfl)]; rfl
theorem scanDown_out (i j : Nat) (h : ¬ i ≤ j ∨ p d[j]! = false) : Go.Sort.scanDown p d i j = j := by
  cases j with
  | zero => rfl
  | succ k =>
    rw [Go.Sort.scanDown, if_neg]
    rcases h with h | h
    · rw [decide_eq_false h]; exact Bool.noConfusion
    · rw [h, Bool.and_false]; exact Bool.noConfusion
theorem scanUp_in (j : Nat) : ∀ (n i : Nat), j + 2 - i ≤ n → i ≤ j + 2 → i ≤ Go.Sort.scanUp p d j i ∧ Go.Sort.scanUp p d j i ≤ j + 2
  | 0, i, hn, hi => by rw [scanUp_out p d j i (Or.inl (by omega))]; omega
  | n + 1, i, hn, hi => by
    by_cases h : i ≤ j ∧ p d[i]! = true
    · rw [scanUp_on p d j i h.1 h.2]
      have := scanUp_in j n (i + 1) (by omega) (by omega)
      omega
    · rw [scanUp_out p d j i (by
        by_cases h1 : i ≤ j
        · exact Or.inr (by simpa using fun h2 => h ⟨h1, h2⟩)
        · exact Or.inl h1)]
      omega
end
end Go.Proofs.YtoocmogmocapoaaDoor
