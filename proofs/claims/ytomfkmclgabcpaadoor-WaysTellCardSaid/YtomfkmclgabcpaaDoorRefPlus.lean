/-
  The document's Plus at two distances; the world stays as it was.
-/
import Derived.Test.YtomfkmclgabcpaaDoorDist
namespace Go.Proofs.YtomfkmclgabcpaaDoor
open Go.RowKit

set_option maxHeartbeats 400000 in
theorem refPlus_any (n m : Nat) (hn : n ≤ 16) (hm : m ≤ 16) (w : World) : Calls Tryd.prog 29 #[.int .i64 n, .int .i64 m] w fun e w' => e = .returned (.int .i64 (DistP.add n m : Int)) ∧ w = w' := by
  rw [← DistP.add_min]
  go_enter Tryd.func29, Tryd.ntmps29
  go_wp2_with fail
  go_ret
  exact ⟨rfl, rfl⟩
end Go.Proofs.YtomfkmclgabcpaaDoor
