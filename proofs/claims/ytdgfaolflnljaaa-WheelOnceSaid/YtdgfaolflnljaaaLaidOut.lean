/-
  PLAIN: the program's types are laid out.
-/
import Derived.Test.YtdgfaolflnljaaaRoom
import Derived.ProofKit
import Derived.OpenShut
import Derived.Carry
namespace Go.Proofs.Ytdgfaolflnljaaa
open Go.RowKit
theorem laidOut : laidOutB Try.prog = true := by kernel_rfl
end Go.Proofs.Ytdgfaolflnljaaa
