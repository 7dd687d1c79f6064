/-
  PLAIN: an error of the document's as a value.
-/
import Derived.Test.YtoocmogmocapoaaProg
import Derived.WalkKit
namespace Go.Proofs.Ytoocmogmocapoaa
open Go.RowKit

/-- An error's value: none, or its number. -/
def errV (k : Int) : Value := if k = 0 then .nilIface else .iface 59 (.int .i64 k)
end Go.Proofs.Ytoocmogmocapoaa
