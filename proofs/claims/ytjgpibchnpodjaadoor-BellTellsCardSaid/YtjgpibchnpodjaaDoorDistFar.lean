/-
  The document's Far at every number; the world stays as it was.
-/
import Derived.Test.YtjgpibchnpodjaaDoorDist
namespace Go.Proofs.YtjgpibchnpodjaaDoor
open Go.RowKit

set_option maxHeartbeats 400000 in
theorem refFar_no (n : Nat) (h : n ≤ 16) (w : World) : Calls Tryd.prog 11 #[.int .i64 n] w fun e w' => e = .returned (.bool false) ∧ w = w' := by
  have h1 : ¬ ((n : Int) < 0) := by omega
  have h2 : ¬ ((16 : Int) < n) := by omega
  go_enter Tryd.func11, Tryd.ntmps11
  go_wp2_with fail
  go_ret
  exact ⟨rfl, rfl⟩
set_option maxHeartbeats 400000 in
theorem refFar_yes (a : Int) (h : DistP.Far a) (w : World) : Calls Tryd.prog 11 #[.int .i64 a] w fun e w' => e = .returned (.bool true) ∧ w = w' := by
  rcases h with h | h
  · go_enter Tryd.func11, Tryd.ntmps11
    go_wp2_with fail
    go_ret
    exact ⟨rfl, rfl⟩
  · have h1 : ¬ (a < 0) := by omega
    go_enter Tryd.func11, Tryd.ntmps11
    go_wp2_with fail
    go_ret
    exact ⟨rfl, rfl⟩
end Go.Proofs.YtjgpibchnpodjaaDoor
