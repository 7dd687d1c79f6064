/-
  PLAIN: how long a list of nodes is as a way, with wraps; none, if it is no way.
-/
import Derived.Test.YtomfkmclgabcpaaDoorGraphPlain
import Derived.RowKit
namespace Go.Proofs.YtomfkmclgabcpaaDoor
open Go.RowKit

/-- How long a way is from a node on, so much being behind. -/
def lenTo (n : Int) (l : List Lk) : Int → Int → List Int → Option Int
  | s, _, [] => some s
  | s, x, y :: r => if y < 0 ∨ n ≤ y ∨ costG l x y = 0 ∨ costG l x y = 16 then none else lenTo n l (wrap64 (s + costG l x y)) y r
/-- How long a way is, if it is one. -/
def lengthG (n : Int) (l : List Lk) : List Int → Option Int
  | [] => none
  | x :: r => if x < 0 ∨ n ≤ x then none else lenTo n l 0 x r
end Go.Proofs.YtomfkmclgabcpaaDoor
