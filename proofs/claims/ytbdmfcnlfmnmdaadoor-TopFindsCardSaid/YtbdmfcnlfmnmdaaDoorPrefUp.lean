/-
  pref.Up at every network; what lay in memory stays.
-/
import Derived.Test.YtbdmfcnlfmnmdaaDoorPrefCheck
namespace Go.Proofs.YtbdmfcnlfmnmdaaDoor
open Go.RowKit

set_option maxHeartbeats 400000 in
theorem up_bad (a : Nat) (z : Int) (k : Int) (w : World)
    (hc : ∀ w, Calls Tryd.prog 21 #[.agg #[.int .u32 a, .int .i64 z]] w fun e w' => e = .returned (.iface 29 (.int .i64 k)) ∧ Below w.heap.size w w') :
    Calls Tryd.prog 60 #[.agg #[.int .u32 a, .int .i64 z]] w fun e w' => e = .returned (.tuple #[.agg #[.int .u32 0, .int .i64 0], .iface 29 (.int .i64 k)]) ∧ Below w.heap.size w w' := by
  have HC := Lib.hid hc; clear hc
  go_enter Tryd.func60, Tryd.ntmps60
  go_wp2_with fail
  refine (HC.out _).mono ?_
  rintro e w1 ⟨rfl, hb⟩
  obtain ⟨⟨l1, c0, c1, f0, f1⟩, ⟨l2, d0, d1, g0, g1⟩, hB⟩ := box2 hb; clear hb
  go_wp2_with fail
  exact bodyPost_ret (v := .tuple #[.agg #[.int .u32 0, .int .i64 0], .iface 29 (.int .i64 k)]) (by simp [results, Tryd.results60, go_sem, d0, d1]) rfl ⟨rfl, (hB.setCell (by simp) _).setCell (by simp) _⟩

set_option maxHeartbeats 400000 in
theorem up_none (w : World) :
    Calls Tryd.prog 60 #[.agg #[.int .u32 0, .int .i64 0]] w fun e w' => e = .returned (.tuple #[.agg #[.int .u32 0, .int .i64 0], .iface 29 (.int .i64 2)]) ∧ Below w.heap.size w w' := by
  have HC := Lib.hid (check_ok 0 0 (by decide) (by decide) (by decide +kernel))
  go_enter Tryd.func60, Tryd.ntmps60
  go_wp2_with fail
  refine (HC.out _).mono ?_
  rintro e w1 ⟨rfl, hb⟩
  obtain ⟨⟨l1, c0, c1, f0, f1⟩, ⟨l2, d0, d1, g0, g1⟩, hB⟩ := box2 hb; clear hb
  go_wp2_with fail
  exact bodyPost_ret (v := .tuple #[.agg #[.int .u32 0, .int .i64 0], .iface 29 (.int .i64 2)]) (by simp [results, Tryd.results60, go_sem, d0, d1]) rfl ⟨rfl, (hB.setCell (by simp) _).setCell (by simp) _⟩

set_option maxHeartbeats 400000 in
theorem up_yes (a n : Nat) (ha : a < 4294967296) (hn : n < 32) (hc : PrefP.cut a (n + 1) = a) (w : World) :
    Calls Tryd.prog 60 #[.agg #[.int .u32 a, .int .i64 ((n : Int) + 1)]] w fun e w' => e = .returned (.tuple #[.agg #[.int .u32 (PrefP.cut a n : Int), .int .i64 n], .nilIface]) ∧ Below w.heap.size w w' := by
  have C := check_ok a (n + 1) ha (by omega) hc
  rw [show ((n + 1 : Nat) : Int) = (n : Int) + 1 by omega] at C
  have HC := Lib.hid C; clear hc C
  have h2 : ((n : Int) + 1 == 0) = false := by
    have h1 : ¬ ((n : Int) + 1 = 0) := by omega
    simpa using h1
  go_enter Tryd.func60, Tryd.ntmps60
  go_wp2_with fail
  refine (HC.out _).mono ?_
  rintro e w1 ⟨rfl, hb⟩
  obtain ⟨⟨l1, c0, c1, f0, f1⟩, B2, hB⟩ := box2 hb; clear hb
  have D := Lib.hid B2; clear B2
  go_wp2_with fail
  refine (around_yes a n ha (by omega) _).mono ?_
  rintro e w2 ⟨rfl, hb2⟩
  obtain ⟨l2, d0, d1, g0, g1⟩ := D.out.kept hb2
  go_wp2_with fail
  exact bodyPost_ret (v := .tuple #[.agg #[.int .u32 (PrefP.cut a n : Int), .int .i64 n], .nilIface]) (by simp [results, Tryd.results60, go_sem, d0, d1]) rfl ⟨rfl, ((Below.two hB hb2).setCell (by simp) _).setCell (by simp) _⟩
end Go.Proofs.YtbdmfcnlfmnmdaaDoor
