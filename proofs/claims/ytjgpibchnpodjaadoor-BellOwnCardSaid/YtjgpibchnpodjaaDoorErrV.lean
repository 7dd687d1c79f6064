/-
  PLAIN: an error of the document's as a value.
-/
import Derived.Test.YtjgpibchnpodjaaDoorProg
import Derived.WalkKit
namespace Go.Proofs.YtjgpibchnpodjaaDoor
open Go.RowKit

/-- An error's value: none, or its number. -/
def errV (k : Int) : Value := if k = 0 then .nilIface else .iface 25 (.int .i64 k)
end Go.Proofs.YtjgpibchnpodjaaDoor
