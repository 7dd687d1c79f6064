/-
  What the document's EntryOf tells, at every twenty bytes (a premise of what calls it).
-/
import Derived.Test.YtlgkjbkbdmneaaaDoorRefEntPlain
import Derived.Test.YtlgkjbkbdmneaaaDoorByteList
import Derived.Test.YtlgkjbkbdmneaaaDoorEntList
namespace Go.Proofs.YtlgkjbkbdmneaaaDoor
open Go.RowKit
def EntTo (w : World) (l : List Nat) (x : Ending) (w' : World) : Prop := ∃ e is, x = .returned (.tuple #[En.v e, .bool is]) ∧ EntIs l e is ∧ Below w.heap.size w w'
theorem EntTo.of {w w' : World} {l : List Nat} {e : En} {is : Bool} (h : EntIs l e is) (hb : Below w.heap.size w w') : EntTo w l (.returned (.tuple #[En.v e, .bool is])) w' := ⟨e, is, rfl, h, hb⟩
def EntAll : Prop := ∀ (w : World) (b off c : Nat) (l : List Nat), l.length = 20 → Byt l → b < w.heap.size → SeenB w b off l → Calls Tryd.prog 29 #[.slice (some ⟨b, off, none⟩) 20 c] w (EntTo w l)
end Go.Proofs.YtlgkjbkbdmneaaaDoor
