/-
  What the statements on networks ask first of all: the text 10.0.0.0/8 is that network's.
-/
import Derived.Test.YtegfjdpibpmdmaaGreatDoorPrefParse
namespace Go.Proofs.YtegfjdpibpmdmaaGreatDoor
open Go.RowKit

set_option maxHeartbeats 400000 in
theorem known_any (w : World) (hw : Spell w) :
    Calls Tryz.prog 4 #[] w fun e w' => e = .returned (.bool true) ∧ Below w.heap.size w w' := by
  have HP := Lib.hid (netParse_is ⟨#[49, 48, 46, 48, 46, 48, 46, 48, 47, 56]⟩ 167772160 8 w PrefP.known hw); clear hw
  go_enter Tryz.func4, Tryz.ntmps4
  go_wp2_with fail
  refine HP.out.mono ?_
  rintro e w1 ⟨rfl, hb⟩
  go_wp2_with fail
  go_ret
  exact ⟨rfl, hb.alloc hb.size _⟩
end Go.Proofs.YtegfjdpibpmdmaaGreatDoor
