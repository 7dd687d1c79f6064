/-
  PLAIN: an error of the document's as a value.
-/
import Derived.Test.YtdgfaolflnljaaaDoorProg
import Derived.WalkKit
namespace Go.Proofs.YtdgfaolflnljaaaDoor
open Go.RowKit

/-- An error's value: none, or its number. -/
def errV (k : Int) : Value := if k = 0 then .nilIface else .iface 27 (.int .i64 k)
end Go.Proofs.YtdgfaolflnljaaaDoor
