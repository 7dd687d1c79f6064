/-
  mask.firstBits (at 0 to 32) and mask.Mask (at every number); the world stays as it was.
-/
import Derived.Test.YtoocmogmocapoaaDoorProg
import Derived.Test.YtoocmogmocapoaaDoorMaskPlain
import Derived.WalkKit
import Derived.Lib.Hide
import Derived.Lib.Walk
import Derived.Below
import Derived.Deep.QuietTactic
import Derived.BigQuiet
import Derived.WalkSmall
namespace Go.Proofs.YtoocmogmocapoaaDoor
open Go.RowKit

theorem firstBits_any (n : Nat) (h : n ≤ 32) (w : World) :
    Calls Tryd.prog 69 #[.int .i64 n] w fun e w' => e = .returned (.int .u32 (MaskP.mk n : Int)) ∧ w = w' := by
  go_enter Tryd.func69, Tryd.ntmps69
  go_wp2_with fail
  go_ret
  refine ⟨?_, rfl⟩
  rw [← MaskP.shl n h]
  simp

set_option maxHeartbeats 400000 in
theorem mask_yes (n : Nat) (h : n ≤ 32) (w : World) :
    Calls Tryd.prog 46 #[.int .i64 n] w fun e w' => e = .returned (.tuple #[.int .u32 (MaskP.mk n : Int), .nilIface]) ∧ w = w' := by
  have h0 : ¬ ((n : Int) < 0) := by omega
  have h1 : ¬ ((32 : Int) < n) := by omega
  go_enter Tryd.func46, Tryd.ntmps46
  go_wp2_with fail
  refine (firstBits_any n h _).mono ?_
  rintro e w1 ⟨rfl, rfl⟩
  go_wp2_with fail
  go_ret2
  exact ⟨rfl, rfl⟩

set_option maxHeartbeats 400000 in
theorem mask_no (z : Int) (h : z < 0 ∨ 32 < z) (w : World) :
    Calls Tryd.prog 46 #[.int .i64 z] w fun e w' => e = .returned (.tuple #[.int .u32 0, .iface 30 (.int .i64 1)]) ∧ w = w' := by
  rcases h with h | h
  · go_enter Tryd.func46, Tryd.ntmps46
    go_wp2_with fail
    go_ret2
    exact ⟨rfl, rfl⟩
  · have h0 : ¬ (z < 0) := by omega
    go_enter Tryd.func46, Tryd.ntmps46
    go_wp2_with fail
    go_ret2
    exact ⟨rfl, rfl⟩

end Go.Proofs.YtoocmogmocapoaaDoor
