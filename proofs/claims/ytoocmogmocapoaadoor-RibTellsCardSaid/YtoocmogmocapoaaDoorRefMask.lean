/-
  waywardenref1.MaskOf at 0 to 32: the number whose first n bits are 1; the world stays as it was.
-/
import Derived.Test.YtoocmogmocapoaaDoorProg
import Derived.Test.YtoocmogmocapoaaDoorMaskPlain
import Derived.WalkKit
import Derived.Lib.Hide
import Derived.Lib.Walk
import Derived.Below
import Derived.WalkSmall
namespace Go.Proofs.YtoocmogmocapoaaDoor
open Go.RowKit

theorem MaskP.or_mod (n : Nat) (h : n < 32) : bits .or .u32 (MaskP.mk n : Int) (2 ^ (31 - n) % 4294967296) = (MaskP.mk (n + 1) : Int) :=
  MaskP.upto31 (P := fun n => bits .or .u32 (MaskP.mk n : Int) (2 ^ (31 - n) % 4294967296) = (MaskP.mk (n + 1) : Int)) (by decide +kernel) n h
theorem MaskP.mk0 : MaskP.mk 0 = 0 := by decide +kernel

set_option maxHeartbeats 400000 in
theorem maskOf_any (n : Nat) (h : n ≤ 32) (w : World) :
    Calls Tryd.prog 32 #[.int .i64 n] w fun e w' => e = .returned (.int .u32 (MaskP.mk n : Int)) ∧ w = w' := by
  go_enter Tryd.func32, Tryd.ntmps32
  go_wp2_with fail
  go_loop [3, 4] (fun m i => ∃ j : Nat, i = .int .i64 (j : Int) ∧ m = .int .u32 (MaskP.mk j : Int) ∧ j ≤ n) (fun _ i => n - (intOf i).toNat)
  case atStart => exact ⟨0, rfl, by rw [MaskP.mk0]; rfl, by omega⟩
  case round =>
    obtain ⟨j, rfl, rfl, hj⟩ := hrel
    by_cases hlt : j < n
    · have e := MaskP.or_mod j (by omega)
      go_wp2_with fail
      exact ⟨⟨j + 1, by simp, rfl, hlt⟩, by simp [intOf]; omega⟩
    · obtain rfl : j = n := by omega
      go_wp2_with fail
      go_ret
      exact ⟨rfl, rfl⟩
end Go.Proofs.YtoocmogmocapoaaDoor
