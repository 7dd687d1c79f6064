/-
  PLAIN: an error of the document's as a value.
-/
import Derived.Test.YtomfkmclgabcpaaDoorProg
import Derived.WalkKit
namespace Go.Proofs.YtomfkmclgabcpaaDoor
open Go.RowKit

/-- An error's value: none, or its number. -/
def errV (k : Int) : Value := if k = 0 then .nilIface else .iface 25 (.int .i64 k)
end Go.Proofs.YtomfkmclgabcpaaDoor
