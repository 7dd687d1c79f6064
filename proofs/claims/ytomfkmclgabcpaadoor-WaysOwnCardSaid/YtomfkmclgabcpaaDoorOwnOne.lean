/-
  The statements' own link; an error told twice is the same.
-/
import Derived.Test.YtomfkmclgabcpaaDoorOneLink
import Derived.Test.YtomfkmclgabcpaaDoorErrTwo
namespace Go.Proofs.YtomfkmclgabcpaaDoor
open Go.RowKit Go.Lib

set_option maxHeartbeats 400000 in
set_option maxRecDepth 100000 in
theorem lone_any (w : World) : Calls Tryd.prog 16 #[] w fun e w' => ∃ g, e = .returned (.slice (some ⟨g, 0, none⟩) 1 1) ∧ ArgK w' (.slice (some ⟨g, 0, none⟩) 1 1) [(0, 1, 3)] ∧ Below w.heap.size w w' := by
  go_enter Tryd.func16, Tryd.ntmps16
  go_wp2_with fail
  go_ret
  exact ⟨_, rfl, one_arg w, (Below.refl _ w).alloc (Nat.le_refl _) _⟩
theorem told_same (q : Int) (w : World) (h : ErrType w) : Calls Tryd.prog 18 #[errV q, errV q] w fun e w' => e = .returned (.bool true) ∧ Below w.heap.size w w' := by
  have := sameTold_any q q w h
  rwa [beq_self_eq_true] at this
end Go.Proofs.YtomfkmclgabcpaaDoor
