/-
  The first rows of a table, and the first numbers of a row.
-/
import Derived.Test.YtobfidlfgdlilaaDoorGridArg
namespace Go.Proofs.YtobfidlfgdlilaaDoor

/-- The first k rows. -/
def rowsTo (n k : Nat) (f : Nat → Nat → Int) : List (List Int) := (List.range k).map fun i => (List.range n).map fun j => f i j
theorem rowsTo_len (n k : Nat) (f : Nat → Nat → Int) : (rowsTo n k f).length = k := by simp [rowsTo]
theorem rowsTo_more (n k : Nat) (f : Nat → Nat → Int) : rowsTo n (k + 1) f = rowsTo n k f ++ [(List.range n).map fun j => f k j] := by simp [rowsTo, List.range_succ]
/-- The first j numbers of a row. -/
def rowTo (j : Nat) (f : Nat → Int) : List Int := (List.range j).map f
theorem rowTo_len (j : Nat) (f : Nat → Int) : (rowTo j f).length = j := by simp [rowTo]
theorem rowTo_more (j : Nat) (f : Nat → Int) : rowTo (j + 1) f = rowTo j f ++ [f j] := by simp [rowTo, List.range_succ]

end Go.Proofs.YtobfidlfgdlilaaDoor
