/-
  PLAIN: an error of the document's as a value.
-/
import Derived.Test.YtjgmehmhhplkaaaDoorProg
import Derived.WalkKit
namespace Go.Proofs.YtjgmehmhhplkaaaDoor
open Go.RowKit

/-- An error's value: none, or its number. -/
def errV (k : Int) : Value := if k = 0 then .nilIface else .iface 24 (.int .i64 k)
end Go.Proofs.YtjgmehmhhplkaaaDoor
