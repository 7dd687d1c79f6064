/-
  PLAIN: an error of the document's as a value.
-/
import Derived.Test.YtoocmogmocapoaaDoorProg
import Derived.WalkKit
namespace Go.Proofs.YtoocmogmocapoaaDoor
open Go.RowKit

/-- An error's value: none, or its number. -/
def errV (k : Int) : Value := if k = 0 then .nilIface else .iface 30 (.int .i64 k)
end Go.Proofs.YtoocmogmocapoaaDoor
