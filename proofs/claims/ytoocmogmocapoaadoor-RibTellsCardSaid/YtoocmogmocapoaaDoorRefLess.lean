/-
  The document's own answer Less, at every two networks; what lay in memory stays.
-/
import Derived.Test.YtoocmogmocapoaaDoorRefFault
namespace Go.Proofs.YtoocmogmocapoaaDoor
open Go.RowKit

set_option maxHeartbeats 400000 in
theorem refLess_any (a : Nat) (l : Int) (b : Nat) (k : Int) (w : World) :
    Calls Tryd.prog 20 #[.agg #[.int .u32 a, .int .i64 l], .agg #[.int .u32 b, .int .i64 k]] w fun e w' => e = .returned (.bool (PrefP.less a l b k)) ∧ Below w.heap.size w w' := by
  unfold PrefP.less
  by_cases h : a = b
  · subst h
    rw [if_pos rfl]
    have h0 : ¬ ((a : Int) < (a : Int)) := by omega
    go_enter Tryd.func20, Tryd.ntmps20
    go_wp2_with fail
    go_ret
    exact ⟨rfl, ((Below.refl _ _).alloc (Nat.le_refl _) _).alloc (by simp) _⟩
  · rw [if_neg h]
    have ht : ((a : Int) == (b : Int)) = false := by
      have : ¬ ((a : Int) = (b : Int)) := by omega
      simpa using this
    by_cases hl : a < b
    · rw [decide_eq_true hl]
      have h1 : (a : Int) < (b : Int) := by omega
      clear h
      go_enter Tryd.func20, Tryd.ntmps20
      go_wp2_with fail
      go_ret
      exact ⟨rfl, ((Below.refl _ _).alloc (Nat.le_refl _) _).alloc (by simp) _⟩
    · rw [decide_eq_false hl]
      have h1 : ¬ ((a : Int) < (b : Int)) := by omega
      clear h
      go_enter Tryd.func20, Tryd.ntmps20
      go_wp2_with fail
      go_ret
      exact ⟨rfl, ((Below.refl _ _).alloc (Nat.le_refl _) _).alloc (by simp) _⟩
end Go.Proofs.YtoocmogmocapoaaDoor
