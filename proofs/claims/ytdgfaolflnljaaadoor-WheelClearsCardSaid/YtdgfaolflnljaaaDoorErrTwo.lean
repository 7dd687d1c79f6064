/-
  What the statements ask of errors, at every error of the document's: its number; whether two are of one number; what lay in memory stays. Condition: the library's variable errors.errorType is as its text lays it.
-/
import Derived.Test.YtdgfaolflnljaaaDoorErrTold
import Derived.Test.YtdgfaolflnljaaaDoorErrV
import Derived.Test.YtdgfaolflnljaaaDoorBoxes
namespace Go.Proofs.YtdgfaolflnljaaaDoor
open Go.RowKit

theorem toldV (k : Int) (w : World) (hg : ErrType w) : Calls Tryd.prog 16 #[errV k] w fun e w' => e = .returned (.int .i64 k) ∧ Below w.heap.size w w' := by
  by_cases h : k = 0
  · subst h
    refine (told_nil w).mono ?_
    rintro e w' ⟨rfl, rfl⟩
    exact ⟨rfl, Below.refl _ _⟩
  · rw [show errV k = .iface 27 (.int .i64 k) from if_neg h]
    exact told_err k w hg

set_option maxHeartbeats 400000 in
set_option maxRecDepth 100000 in
theorem sameTold_any (a b : Int) (w : World) (hg : ErrType w) : Calls Tryd.prog 14 #[errV a, errV b] w fun e w' => e = .returned (.bool (a == b)) ∧ Below w.heap.size w w' := by
  have HG := Lib.hid hg; clear hg
  have h1 := Lib.hid (toldV a); have h2 := Lib.hid (toldV b)
  generalize errV a = ea at h1 ⊢
  generalize errV b = eb at h2 ⊢
  go_enter Tryd.func14, Tryd.ntmps14
  go_wp2_with fail
  refine (h1.out w HG.out).mono ?_
  rintro e w1 ⟨rfl, b1⟩
  go_wp2_with fail
  refine (h2.out w1 (HG.out.below b1)).mono ?_
  rintro e w2 ⟨rfl, b2⟩
  go_wp2_with fail
  go_ret
  exact ⟨rfl, Below.two b1 b2⟩
end Go.Proofs.YtdgfaolflnljaaaDoor
