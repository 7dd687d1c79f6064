/-
  PLAIN: the program's types are laid out.
-/
import Derived.Test.YtoocmogmocapoaaRoom
import Derived.ProofKit
import Derived.OpenShut
import Derived.Carry
namespace Go.Proofs.Ytoocmogmocapoaa
open Go.RowKit
theorem laidOut : laidOutB Try.prog = true := by kernel_rfl
end Go.Proofs.Ytoocmogmocapoaa
