/-
  What lay below is as it was, however often the order was drawn.
-/
import Derived.Test.YtomfkmclgabcpaaDoorBoxes
import Derived.Deep.QuietTactic
namespace Go.Proofs.YtomfkmclgabcpaaDoor
open Go.RowKit

theorem bel_drewN {B : Nat} {w W : World} (h : Below B w W) (n : Nat) : Below B w (W.drewN n) := ⟨h.os, h.tape, h.output, h.size, h.block⟩
end Go.Proofs.YtomfkmclgabcpaaDoor
