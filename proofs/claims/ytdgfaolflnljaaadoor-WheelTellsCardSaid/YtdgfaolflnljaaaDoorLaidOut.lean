/-
  PLAIN: the program's types are laid out.
-/
import Derived.Test.YtdgfaolflnljaaaDoorRoom
import Derived.ProofKit
import Derived.OpenShut
import Derived.Carry
namespace Go.Proofs.YtdgfaolflnljaaaDoor
open Go.RowKit
theorem laidOut : laidOutB Tryd.prog = true := by kernel_rfl
end Go.Proofs.YtdgfaolflnljaaaDoor
