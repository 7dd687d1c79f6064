/-
  The statements' own rounded tells true; what lay in memory stays.
-/
import Derived.Test.YtjgpibchnpodjaaBellRun
namespace Go.Proofs.Ytjgpibchnpodjaa
open Go.RowKit Go.Lib

theorem rounded_right : gBad ((2 : Nat) : Int) [(0, 1, 3)] = 0 := by decide
theorem rounded_cnt : BellP.Cnt 2 (BellP.ct [(0, 1, 3)]) 0 1 := by
  refine ⟨by decide, by decide, fun s hs => ?_⟩
  obtain rfl : s = 0 := by omega
  decide
theorem rounded_far : BellP.vec 2 (BellP.far 2 (BellP.ct [(0, 1, 3)]) 0) = [0, 3] := by decide
/-- One link in a block of its own. -/
theorem one_arg (w : World) : ArgK (w.alloc (.cells #[.int .i64 0, .int .i64 1, .int .i64 3] 38)) (.slice (some ⟨w.heap.size, 0, none⟩) 1 1) [(0, 1, 3)] := by
  have X := Box3.new w (.int .i64 0) (.int .i64 1) (.int .i64 3) 38
  exact ⟨_, 1, rfl, Or.inr ⟨w.heap.size, 0, rfl, X.lt, ⟨fun i hi => by
    obtain rfl : i = 0 := by simpa using hi
    exact X.c0, fun i hi => by
    obtain rfl : i = 0 := by simpa using hi
    exact X.c1, fun i hi => by
    obtain rfl : i = 0 := by simpa using hi
    exact X.c2⟩⟩⟩
/-- Two numbers in a block of its own. -/
theorem two_arg (w : World) (x y : Int) : ArgI (w.alloc (.cells #[.int .i64 x, .int .i64 y] 3)) (.slice (some ⟨w.heap.size, 0, none⟩) 2 2) [x, y] := by
  have B := Box.new w (.int .i64 x) (.int .i64 y) 3
  refine ⟨_, 2, rfl, Or.inr ⟨_, 0, rfl, B.lt, fun j hj => ?_⟩⟩
  match j, hj with
  | 0, _ => exact B.c0
  | 1, _ => exact B.c1

set_option maxHeartbeats 1000000 in
set_option maxRecDepth 100000 in
theorem rounded_any (w : World) : Calls Try.prog 6 #[] w fun e w' => e = .returned (.bool true) ∧ Below w.heap.size w w' := by
  have HB0 := Lib.hid ((Below.refl w.heap.size w).alloc (Nat.le_refl _) (.cells #[.int .i64 0, .int .i64 1, .int .i64 3] 38))
  have HC := Lib.hid (run_ok _ 2 0 1 (.slice (some ⟨w.heap.size, 0, none⟩) 1 1) [(0, 1, 3)] (by decide) (one_arg w) rounded_right (by decide) rounded_cnt)
  go_enter Try.func6, Try.ntmps6
  go_wp2_with fail
  refine HC.out.mono ?_
  rintro e w1 ⟨g, hg, rfl, hV, hb1⟩
  have HB1 := Lib.hid (Below.two HB0.out hb1)
  have B2 := (Below.refl w1.heap.size w1).alloc (Nat.le_refl _) (.cells #[.int .i64 0, .int .i64 3] 3)
  have HS := sameInts_any _ _ _ _ [0, 3] (by rw [BellP.vec_len]; decide) (hV.keep B2).argV (two_arg w1 0 3)
  rw [rounded_far, decide_eq_true rfl] at HS
  have HS := Lib.hid HS
  have HB2 := Lib.hid (Below.two HB1.out B2)
  clear hV hb1 B2 hg HC
  go_wp2_with fail
  refine HS.out.mono ?_
  rintro e w3 ⟨rfl, hb3⟩
  have HB3 := Lib.hid (Below.two HB2.out hb3); clear hb3
  go_wp2_with fail
  go_ret
  exact ⟨rfl, HB3.out⟩
end Go.Proofs.Ytjgpibchnpodjaa
