/-
  The first rows of a table, and the first numbers of a row.
-/
import Derived.Test.YtomfkmclgabcpaaDoorGridArg
namespace Go.Proofs.YtomfkmclgabcpaaDoor

/-- The first k rows. -/
def rowsTo (n k : Nat) (f : Nat → Nat → Int) : List (List Int) := (List.range k).map fun i => (List.range n).map fun j => f i j
theorem rowsTo_len (n k : Nat) (f : Nat → Nat → Int) : (rowsTo n k f).length = k := by simp [rowsTo]
theorem rowsTo_more (n k : Nat) (f : Nat → Nat → Int) : rowsTo n (k + 1) f = rowsTo n k f ++ [(List.range n).map fun j => f k j] := by simp [rowsTo, List.range_succ]
/-- The first j numbers of a row. -/
def rowTo (j : Nat) (f : Nat → Int) : List Int := (List.range j).map f
theorem rowTo_len (j : Nat) (f : Nat → Int) : (rowTo j f).length = j := by simp [rowTo]
theorem rowTo_more (j : Nat) (f : Nat → Int) : rowTo (j + 1) f = rowTo j f ++ [f j] := by simp [rowTo, List.range_succ]
theorem allT {α : Type} {p : α → Prop} [Inhabited α] {l : List α} {k : Nat} (hk : k < l.length) (h : ∀ x ∈ l.take k, p x) (hx : p l[k]!) : ∀ x ∈ l.take (k + 1), p x := by
  rw [List.take_succ_eq_append_getElem hk, ← getElem!_pos l k hk]
  intro x hm
  rcases List.mem_append.1 hm with h1 | h1
  · exact h x h1
  · rw [List.mem_singleton.1 h1]; exact hx
theorem memAt {α : Type} [Inhabited α] {l : List α} {k : Nat} (hk : k < l.length) : l[k]! ∈ l := by
  rw [getElem!_pos l k hk]; exact List.getElem_mem hk

end Go.Proofs.YtomfkmclgabcpaaDoor
