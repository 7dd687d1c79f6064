/-
  Is an error of the document's the one told? What lay in memory stays. Condition: the library's variable errors.errorType is as its text lays it.
-/
import Derived.Test.YtomfkmclgabcpaaDoorErrTold
import Derived.Test.YtomfkmclgabcpaaDoorErrV
namespace Go.Proofs.YtomfkmclgabcpaaDoor
open Go.RowKit

theorem sameErr_any (k e : Int) (w : World) (hg : ErrType w) : Calls Tryd.prog 11 #[errV k, .int .i64 e] w fun r w' => r = .returned (.bool (k == e)) ∧ Below w.heap.size w w' := by
  by_cases h : k = 0
  · subst h
    refine (same_nil e _ rfl w).mono ?_
    rintro r w' ⟨rfl, rfl⟩
    exact ⟨rfl, Below.refl _ _⟩
  · rw [show errV k = .iface 25 (.int .i64 k) from if_neg h]
    exact same_err k e _ rfl w hg
end Go.Proofs.YtomfkmclgabcpaaDoor
