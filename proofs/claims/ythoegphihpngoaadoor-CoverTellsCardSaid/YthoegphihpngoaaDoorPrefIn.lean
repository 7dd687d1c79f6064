/-
  pref.In, pref.Up and pref.Halves at every network; what lay in memory stays.
-/
import Derived.Test.YthoegphihpngoaaDoorPrefCheck
namespace Go.Proofs.YthoegphihpngoaaDoor
open Go.RowKit

set_option maxHeartbeats 400000 in
theorem in_bad (a : Nat) (z : Int) (k : Int) (b : Nat) (y : Int) (w : World)
    (hc : ∀ w, Calls Tryd.prog 26 #[.agg #[.int .u32 a, .int .i64 z]] w fun e w' => e = .returned (.iface 25 (.int .i64 k)) ∧ Below w.heap.size w w') :
    Calls Tryd.prog 20 #[.agg #[.int .u32 a, .int .i64 z], .agg #[.int .u32 b, .int .i64 y]] w fun e w' => e = .returned (.bool false) ∧ Below w.heap.size w w' := by
  have HC := Lib.hid hc; clear hc
  go_enter Tryd.func20, Tryd.ntmps20
  go_wp2_with fail
  refine (HC.out _).mono ?_
  rintro e w1 ⟨rfl, hb⟩
  obtain ⟨⟨l1, c0, c1, f0, f1⟩, ⟨l2, d0, d1, g0, g1⟩, hB⟩ := box2 hb; clear hb
  go_wp2_with fail
  go_ret
  exact ⟨rfl, hB⟩

set_option maxHeartbeats 400000 in
theorem in_good (a n : Nat) (ha : a < 4294967296) (hn : n ≤ 32) (hc : PrefP.cut a n = a) (b : Nat) (y : Int) (w : World) :
    Calls Tryd.prog 20 #[.agg #[.int .u32 a, .int .i64 n], .agg #[.int .u32 b, .int .i64 y]] w fun e w' => e = .returned (.bool (decide (y ≤ n) && PrefP.has b y a)) ∧ Below w.heap.size w w' := by
  have HC := Lib.hid (check_ok a n ha hn hc); clear hc
  by_cases hy : y ≤ (n : Int)
  · rw [decide_eq_true hy, Bool.true_and]
    go_enter Tryd.func20, Tryd.ntmps20
    go_wp2_with fail
    refine (HC.out _).mono ?_
    rintro e w1 ⟨rfl, hb⟩
    obtain ⟨⟨l1, c0, c1, f0, f1⟩, ⟨l2, d0, d1, g0, g1⟩, hB⟩ := box2 hb; clear hb
    go_wp2_with fail
    refine (has_any b y a ha _).mono ?_
    rintro e w2 ⟨rfl, hb2⟩
    go_wp2_with fail
    go_ret
    exact ⟨rfl, Below.two hB hb2⟩
  · rw [decide_eq_false hy, Bool.false_and]
    go_enter Tryd.func20, Tryd.ntmps20
    go_wp2_with fail
    refine (HC.out _).mono ?_
    rintro e w1 ⟨rfl, hb⟩
    obtain ⟨⟨l1, c0, c1, f0, f1⟩, ⟨l2, d0, d1, g0, g1⟩, hB⟩ := box2 hb; clear hb
    go_wp2_with fail
    go_ret
    exact ⟨rfl, hB⟩

theorem in_any (a : Nat) (z : Int) (b : Nat) (y : Int) (ha : a < 4294967296) (w : World) :
    Calls Tryd.prog 20 #[.agg #[.int .u32 a, .int .i64 z], .agg #[.int .u32 b, .int .i64 y]] w fun e w' => e = .returned (.bool (PrefP.in a z b y)) ∧ Below w.heap.size w w' := by
  unfold PrefP.in
  rcases PrefP.chk_cases a z with ⟨h, h1⟩ | ⟨n, rfl, hn, hc, h1⟩ | ⟨n, rfl, hn, hc, h1⟩
  · rw [h1]
    exact in_bad a z 1 b y w (check_range a z h)
  · rw [h1]
    exact in_bad a n 3 b y w (check_form a n ha hn hc)
  · rw [h1, beq_self_eq_true, Bool.true_and]
    exact in_good a n ha hn hc b y w

set_option maxHeartbeats 400000 in
theorem up_bad (a : Nat) (z : Int) (k : Int) (w : World)
    (hc : ∀ w, Calls Tryd.prog 26 #[.agg #[.int .u32 a, .int .i64 z]] w fun e w' => e = .returned (.iface 25 (.int .i64 k)) ∧ Below w.heap.size w w') :
    Calls Tryd.prog 40 #[.agg #[.int .u32 a, .int .i64 z]] w fun e w' => e = .returned (.tuple #[.agg #[.int .u32 0, .int .i64 0], .iface 25 (.int .i64 k)]) ∧ Below w.heap.size w w' := by
  have HC := Lib.hid hc; clear hc
  go_enter Tryd.func40, Tryd.ntmps40
  go_wp2_with fail
  refine (HC.out _).mono ?_
  rintro e w1 ⟨rfl, hb⟩
  obtain ⟨⟨l1, c0, c1, f0, f1⟩, ⟨l2, d0, d1, g0, g1⟩, hB⟩ := box2 hb; clear hb
  go_wp2_with fail
  exact bodyPost_ret (v := .tuple #[.agg #[.int .u32 0, .int .i64 0], .iface 25 (.int .i64 k)]) (by simp [results, Tryd.results40, go_sem, d0, d1]) rfl ⟨rfl, (hB.setCell (by simp) _).setCell (by simp) _⟩

set_option maxHeartbeats 400000 in
theorem up_none (w : World) :
    Calls Tryd.prog 40 #[.agg #[.int .u32 0, .int .i64 0]] w fun e w' => e = .returned (.tuple #[.agg #[.int .u32 0, .int .i64 0], .iface 25 (.int .i64 2)]) ∧ Below w.heap.size w w' := by
  have HC := Lib.hid (check_ok 0 0 (by decide) (by decide) (by decide +kernel))
  go_enter Tryd.func40, Tryd.ntmps40
  go_wp2_with fail
  refine (HC.out _).mono ?_
  rintro e w1 ⟨rfl, hb⟩
  obtain ⟨⟨l1, c0, c1, f0, f1⟩, ⟨l2, d0, d1, g0, g1⟩, hB⟩ := box2 hb; clear hb
  go_wp2_with fail
  exact bodyPost_ret (v := .tuple #[.agg #[.int .u32 0, .int .i64 0], .iface 25 (.int .i64 2)]) (by simp [results, Tryd.results40, go_sem, d0, d1]) rfl ⟨rfl, (hB.setCell (by simp) _).setCell (by simp) _⟩

set_option maxHeartbeats 400000 in
theorem up_yes (a n : Nat) (ha : a < 4294967296) (hn : n < 32) (hc : PrefP.cut a (n + 1) = a) (w : World) :
    Calls Tryd.prog 40 #[.agg #[.int .u32 a, .int .i64 ((n : Int) + 1)]] w fun e w' => e = .returned (.tuple #[.agg #[.int .u32 (PrefP.cut a n : Int), .int .i64 n], .nilIface]) ∧ Below w.heap.size w w' := by
  have C := check_ok a (n + 1) ha (by omega) hc
  rw [show ((n + 1 : Nat) : Int) = (n : Int) + 1 by omega] at C
  have HC := Lib.hid C; clear hc C
  have h2 : ((n : Int) + 1 == 0) = false := by
    have h1 : ¬ ((n : Int) + 1 = 0) := by omega
    simpa using h1
  go_enter Tryd.func40, Tryd.ntmps40
  go_wp2_with fail
  refine (HC.out _).mono ?_
  rintro e w1 ⟨rfl, hb⟩
  obtain ⟨⟨l1, c0, c1, f0, f1⟩, B2, hB⟩ := box2 hb; clear hb
  have D := Lib.hid B2; clear B2
  go_wp2_with fail
  refine (around_yes a n ha (by omega) _).mono ?_
  rintro e w2 ⟨rfl, hb2⟩
  obtain ⟨l2, d0, d1, g0, g1⟩ := D.out.kept hb2
  go_wp2_with fail
  exact bodyPost_ret (v := .tuple #[.agg #[.int .u32 (PrefP.cut a n : Int), .int .i64 n], .nilIface]) (by simp [results, Tryd.results40, go_sem, d0, d1]) rfl ⟨rfl, ((Below.two hB hb2).setCell (by simp) _).setCell (by simp) _⟩
end Go.Proofs.YthoegphihpngoaaDoor
