/-
  The statements' own nearest tells true; what lay in memory stays.
-/
import Derived.Test.YtjgmehmhhplkaaaDoorSpfOne
import Derived.Test.YtjgmehmhhplkaaaDoorSameInts
namespace Go.Proofs.YtjgmehmhhplkaaaDoor
open Go.RowKit Go.Lib

set_option maxHeartbeats 1000000 in
set_option maxRecDepth 100000 in
theorem nearest_any (w : World) : Calls Tryd.prog 5 #[] w fun e w' => e = .returned (.bool true) ∧ Below w.heap.size w w' := by
  have HB0 := Lib.hid ((Below.refl w.heap.size w).alloc (Nat.le_refl _) (.cells #[.int .i64 0, .int .i64 1, .int .i64 3] 46))
  have HC := Lib.hid (one_any _ _ (one_arg w))
  go_enter Tryd.func5, Tryd.ntmps5
  go_wp2_with fail
  refine HC.out.mono ?_
  rintro e w1 ⟨g, hg, rfl, hV, hb1⟩
  have HB1 := Lib.hid (Below.two HB0.out hb1)
  have B2 := (Below.refl w1.heap.size w1).alloc (Nat.le_refl _) (.cells #[.int .i64 0, .int .i64 3] 3)
  have HS := sameInts_any _ _ _ _ [0, 3] (by rw [BellP.vec_len]; decide) (hV.keep B2).argV (two_arg w1 0 3)
  rw [one_far, decide_eq_true rfl] at HS
  have HS := Lib.hid HS
  have HB2 := Lib.hid (Below.two HB1.out B2)
  clear hV hb1 B2 hg HC
  go_wp2_with fail
  refine HS.out.mono ?_
  rintro e w3 ⟨rfl, hb3⟩
  have HB3 := Lib.hid (Below.two HB2.out hb3); clear hb3
  go_wp2_with fail
  go_ret
  exact ⟨rfl, HB3.out⟩
end Go.Proofs.YtjgmehmhhplkaaaDoor
