/-
  pref.Check at every network; what lay in memory stays.
-/
import Derived.Test.YtoocmogmocapoaaDoorPrefAround
import Derived.Test.YtoocmogmocapoaaDoorBoxes
namespace Go.Proofs.YtoocmogmocapoaaDoor
open Go.RowKit

set_option maxHeartbeats 400000 in
theorem check_range (a : Nat) (z : Int) (h : z < 0 ∨ 32 < z) (w : World) :
    Calls Tryd.prog 23 #[.agg #[.int .u32 a, .int .i64 z]] w fun e w' => e = .returned (.iface 30 (.int .i64 1)) ∧ Below w.heap.size w w' := by
  have H := Lib.hid h; clear h
  go_enter Tryd.func23, Tryd.ntmps23
  go_wp2_with fail
  refine (around_no a z H.out _).mono ?_
  rintro e w1 ⟨rfl, hb⟩
  obtain ⟨⟨l1, c0, c1, f0, f1⟩, hB⟩ := box1 hb; clear hb
  go_wp2_with fail
  go_ret
  exact ⟨rfl, hB.alloc (by omega) _⟩

set_option maxHeartbeats 400000 in
theorem check_ok (a n : Nat) (ha : a < 4294967296) (hn : n ≤ 32) (hc : PrefP.cut a n = a) (w : World) :
    Calls Tryd.prog 23 #[.agg #[.int .u32 a, .int .i64 n]] w fun e w' => e = .returned .nilIface ∧ Below w.heap.size w w' := by
  have C := around_yes a n ha hn
  rw [hc] at C
  have HC := Lib.hid C; clear C hc
  go_enter Tryd.func23, Tryd.ntmps23
  go_wp2_with fail
  refine (HC.out _).mono ?_
  rintro e w1 ⟨rfl, hb⟩
  obtain ⟨⟨l1, c0, c1, f0, f1⟩, hB⟩ := box1 hb; clear hb
  go_wp2_with fail
  go_ret
  exact ⟨rfl, hB.alloc (by omega) _⟩

set_option maxHeartbeats 400000 in
theorem check_form (a n : Nat) (ha : a < 4294967296) (hn : n ≤ 32) (hc : PrefP.cut a n ≠ a) (w : World) :
    Calls Tryd.prog 23 #[.agg #[.int .u32 a, .int .i64 n]] w fun e w' => e = .returned (.iface 30 (.int .i64 3)) ∧ Below w.heap.size w w' := by
  have HC := Lib.hid (around_yes a n ha hn)
  have ht : ((a : Int) == (PrefP.cut a n : Int)) = false := by
    have : ¬ ((a : Int) = (PrefP.cut a n : Int)) := by omega
    simpa using this
  clear hc
  go_enter Tryd.func23, Tryd.ntmps23
  go_wp2_with fail
  refine (HC.out _).mono ?_
  rintro e w1 ⟨rfl, hb⟩
  obtain ⟨⟨l1, c0, c1, f0, f1⟩, hB⟩ := box1 hb; clear hb
  go_wp2_with fail
  go_ret
  exact ⟨rfl, hB.alloc (by omega) _⟩
end Go.Proofs.YtoocmogmocapoaaDoor
