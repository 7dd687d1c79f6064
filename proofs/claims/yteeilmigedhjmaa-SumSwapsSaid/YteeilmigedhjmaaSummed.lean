/-
  The statements' own example: the sum of four bytes; what lay in memory stays.
-/
import Derived.Test.YteeilmigedhjmaaSumSum
namespace Go.Proofs.Yteeilmigedhjmaa
open Go.RowKit Go.Lib

/-- The four bytes, laid. -/
theorem four_sum (w : World) : Calls Try.prog 10 #[.slice (some ⟨w.heap.size, 0, none⟩) 4 4] (w.alloc (.cells #[.int .u8 0, .int .u8 1, .int .u8 242, .int .u8 3] 5)) fun e w' => e = .returned (.int .u16 3579) ∧ Below w.heap.size w w' := by
  have o := OwnB.made w w.heap.size [0, 1, 242, 3] #[.int .u8 0, .int .u8 1, .int .u8 242, .int .u8 3] rfl (Nat.le_refl _) (by decide)
  refine (sum_any _ _ [0, 1, 242, 3] (by decide) (fun x hx => ?_) o.arg).mono ?_
  · simp at hx
    omega
  · rintro x w2 ⟨rfl, b2⟩
    exact ⟨rfl, Below.two ((Below.refl _ _).alloc (Nat.le_refl _) _) b2⟩

set_option maxHeartbeats 400000 in
theorem summed_any (w : World) : Calls Try.prog 8 #[] w fun e w' => e = .returned (.bool true) ∧ Below w.heap.size w w' := by
  have HC := Lib.hid (four_sum w)
  go_enter Try.func8, Try.ntmps8
  go_wp2_with fail
  refine HC.out.mono ?_
  rintro x w2 ⟨rfl, b2⟩
  have HT2 := Lib.hid b2
  clear b2
  go_wp2_with fail
  go_ret
  exact ⟨rfl, HT2.out⟩
end Go.Proofs.Yteeilmigedhjmaa
