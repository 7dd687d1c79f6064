/-
  pref.Less at any two networks; what lay in memory stays.
-/
import Derived.Test.YtoocmogmocapoaaDoorPrefCheck
namespace Go.Proofs.YtoocmogmocapoaaDoor
open Go.RowKit

set_option maxHeartbeats 400000 in
theorem less_any (a : Nat) (l : Int) (b : Nat) (k : Int) (w : World) :
    Calls Tryd.prog 31 #[.agg #[.int .u32 a, .int .i64 l], .agg #[.int .u32 b, .int .i64 k]] w fun e w' => e = .returned (.bool (PrefP.less a l b k)) ∧ Below w.heap.size w w' := by
  unfold PrefP.less
  by_cases h : a = b
  · subst h
    rw [if_pos rfl]
    go_enter Tryd.func31, Tryd.ntmps31
    go_wp2_with fail
    go_ret
    exact ⟨rfl, ((Below.refl _ _).alloc (Nat.le_refl _) _).alloc (by simp) _⟩
  · rw [if_neg h]
    have ht : ((a : Int) == (b : Int)) = false := by
      have : ¬ ((a : Int) = (b : Int)) := by omega
      simpa using this
    clear h
    go_enter Tryd.func31, Tryd.ntmps31
    go_wp2_with fail
    go_ret
    exact ⟨by simp, ((Below.refl _ _).alloc (Nat.le_refl _) _).alloc (by simp) _⟩
end Go.Proofs.YtoocmogmocapoaaDoor
