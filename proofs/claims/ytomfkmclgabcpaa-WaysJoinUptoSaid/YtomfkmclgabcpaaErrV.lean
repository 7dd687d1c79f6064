/-
  PLAIN: an error of the document's as a value.
-/
import Derived.Test.YtomfkmclgabcpaaProg
import Derived.WalkKit
namespace Go.Proofs.Ytomfkmclgabcpaa
open Go.RowKit

/-- An error's value: none, or its number. -/
def errV (k : Int) : Value := if k = 0 then .nilIface else .iface 44 (.int .i64 k)
end Go.Proofs.Ytomfkmclgabcpaa
