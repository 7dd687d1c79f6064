/-
  PLAIN: the program's types are laid out.
-/
import Derived.Test.YtmfajaalbklfeaaDoorRoom
import Derived.ProofKit
import Derived.OpenShut
import Derived.Carry
namespace Go.Proofs.YtmfajaalbklfeaaDoor
open Go.RowKit
theorem laidOut : laidOutB Tryd.prog = true := by kernel_rfl
end Go.Proofs.YtmfajaalbklfeaaDoor
