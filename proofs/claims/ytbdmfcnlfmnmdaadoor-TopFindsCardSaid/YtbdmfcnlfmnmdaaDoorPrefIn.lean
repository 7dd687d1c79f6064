/-
  pref.In at any two networks; what lay in memory stays.
-/
import Derived.Test.YtbdmfcnlfmnmdaaDoorPrefHas
namespace Go.Proofs.YtbdmfcnlfmnmdaaDoor
open Go.RowKit

set_option maxHeartbeats 400000 in
theorem in_bad (a : Nat) (z : Int) (k : Int) (b : Nat) (y : Int) (w : World)
    (hc : ∀ w, Calls Tryd.prog 21 #[.agg #[.int .u32 a, .int .i64 z]] w fun e w' => e = .returned (.iface 29 (.int .i64 k)) ∧ Below w.heap.size w w') :
    Calls Tryd.prog 39 #[.agg #[.int .u32 a, .int .i64 z], .agg #[.int .u32 b, .int .i64 y]] w fun e w' => e = .returned (.bool false) ∧ Below w.heap.size w w' := by
  have HC := Lib.hid hc; clear hc
  go_enter Tryd.func39, Tryd.ntmps39
  go_wp2_with fail
  refine (HC.out _).mono ?_
  rintro e w1 ⟨rfl, hb⟩
  obtain ⟨⟨l1, c0, c1, f0, f1⟩, ⟨l2, d0, d1, g0, g1⟩, hB⟩ := box2 hb; clear hb
  go_wp2_with fail
  go_ret
  exact ⟨rfl, hB⟩

set_option maxHeartbeats 400000 in
theorem in_good (a n : Nat) (ha : a < 4294967296) (hn : n ≤ 32) (hc : PrefP.cut a n = a) (b : Nat) (y : Int) (w : World) :
    Calls Tryd.prog 39 #[.agg #[.int .u32 a, .int .i64 n], .agg #[.int .u32 b, .int .i64 y]] w fun e w' => e = .returned (.bool (decide (y ≤ n) && PrefP.has b y a)) ∧ Below w.heap.size w w' := by
  have HC := Lib.hid (check_ok a n ha hn hc); clear hc
  by_cases hy : y ≤ (n : Int)
  · rw [decide_eq_true hy, Bool.true_and]
    go_enter Tryd.func39, Tryd.ntmps39
    go_wp2_with fail
    refine (HC.out _).mono ?_
    rintro e w1 ⟨rfl, hb⟩
    obtain ⟨⟨l1, c0, c1, f0, f1⟩, ⟨l2, d0, d1, g0, g1⟩, hB⟩ := box2 hb; clear hb
    go_wp2_with fail
    refine (has_any b y a ha _).mono ?_
    rintro e w2 ⟨rfl, hb2⟩
    go_wp2_with fail
    go_ret
    exact ⟨rfl, Below.two hB hb2⟩
  · rw [decide_eq_false hy, Bool.false_and]
    go_enter Tryd.func39, Tryd.ntmps39
    go_wp2_with fail
    refine (HC.out _).mono ?_
    rintro e w1 ⟨rfl, hb⟩
    obtain ⟨⟨l1, c0, c1, f0, f1⟩, ⟨l2, d0, d1, g0, g1⟩, hB⟩ := box2 hb; clear hb
    go_wp2_with fail
    go_ret
    exact ⟨rfl, hB⟩

theorem in_any (a : Nat) (z : Int) (b : Nat) (y : Int) (ha : a < 4294967296) (w : World) :
    Calls Tryd.prog 39 #[.agg #[.int .u32 a, .int .i64 z], .agg #[.int .u32 b, .int .i64 y]] w fun e w' => e = .returned (.bool (PrefP.in a z b y)) ∧ Below w.heap.size w w' := by
  unfold PrefP.in
  rcases PrefP.chk_cases a z with ⟨h, h1⟩ | ⟨n, rfl, hn, hc, h1⟩ | ⟨n, rfl, hn, hc, h1⟩
  · rw [h1]
    exact in_bad a z 1 b y w (check_range a z h)
  · rw [h1]
    exact in_bad a n 3 b y w (check_form a n ha hn hc)
  · rw [h1, beq_self_eq_true, Bool.true_and]
    exact in_good a n ha hn hc b y w
end Go.Proofs.YtbdmfcnlfmnmdaaDoor
