/-
  The statements' own way: ways.First at one link, and what the statements look at first; what lay in memory stays.
-/
import Derived.Test.YtomfkmclgabcpaaDoorWaysFst
import Derived.Test.YtomfkmclgabcpaaDoorOneLink
import Derived.Test.YtomfkmclgabcpaaDoorSameInts
namespace Go.Proofs.YtomfkmclgabcpaaDoor
open Go.RowKit Go.Lib

theorem one_fst : WaysP.zs (WaysP.fst 2 (BellP.ct [(0, 1, 3)]) 1 0) = [0, 1] := by decide +kernel
theorem one_near : BellP.far 2 (BellP.ct [(0, 1, 3)]) 1 0 < 16 := by decide +kernel
/-- The way between the ends of one link. -/
theorem oneWay_any (w : World) (v : Value) (h : ArgK w v [(0, 1, 3)]) : Calls Tryd.prog 13 #[.int .i64 2, v, .int .i64 0, .int .i64 1] w fun e w' => ∃ p, e = .returned (.tuple #[p, .nilIface]) ∧ OwnI w' w.heap.size p [0, 1] ∧ Below w.heap.size w w' := by
  have := first_ok w 2 0 1 v [(0, 1, 3)] (by decide) h one_right (by decide) (by decide) one_near
  rwa [one_fst] at this
set_option maxHeartbeats 1000000 in
set_option maxRecDepth 100000 in
theorem gone_any (w : World) : Calls Tryd.prog 5 #[] w fun e w' => e = .returned (.bool true) ∧ Below w.heap.size w w' := by
  have HB0 := Lib.hid ((Below.refl w.heap.size w).alloc (Nat.le_refl _) (.cells #[.int .i64 0, .int .i64 1, .int .i64 3] 48))
  have HC := Lib.hid (oneWay_any _ _ (one_arg w))
  go_enter Tryd.func5, Tryd.ntmps5
  go_wp2_with fail
  refine HC.out.mono ?_
  rintro e w1 ⟨p, rfl, hO, hb1⟩
  have HB1 := Lib.hid (Below.two HB0.out hb1)
  have B2 := (Below.refl w1.heap.size w1).alloc (Nat.le_refl _) (.cells #[.int .i64 0, .int .i64 1] 3)
  have HS := sameInts_any _ _ _ [0, 1] [0, 1] (by decide) (hO.keep B2).arg (two_arg w1 0 1)
  rw [decide_eq_true rfl] at HS
  obtain ⟨p0, c0, rfl, _⟩ := hO.arg
  have HS := Lib.hid HS
  have HB2 := Lib.hid (Below.two HB1.out B2)
  clear hO hb1 B2 HC
  go_wp2_with fail
  refine HS.out.mono ?_
  rintro e w3 ⟨rfl, hb3⟩
  have HB3 := Lib.hid (Below.two HB2.out hb3); clear hb3
  go_wp2_with fail
  go_ret
  exact ⟨rfl, HB3.out⟩
end Go.Proofs.YtomfkmclgabcpaaDoor
