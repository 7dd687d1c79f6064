/-
  pref.Halves at every network; what lay in memory stays.
-/
import Derived.Test.YtbdmfcnlfmnmdaaDoorPrefCheck
namespace Go.Proofs.YtbdmfcnlfmnmdaaDoor
open Go.RowKit

set_option maxHeartbeats 400000 in
theorem halves_bad (a : Nat) (z : Int) (k : Int) (w : World)
    (hc : ∀ w, Calls Tryd.prog 21 #[.agg #[.int .u32 a, .int .i64 z]] w fun e w' => e = .returned (.iface 29 (.int .i64 k)) ∧ Below w.heap.size w w') :
    Calls Tryd.prog 34 #[.agg #[.int .u32 a, .int .i64 z]] w fun e w' => e = .returned (.tuple #[.agg #[.int .u32 0, .int .i64 0], .agg #[.int .u32 0, .int .i64 0], .iface 29 (.int .i64 k)]) ∧ Below w.heap.size w w' := by
  have HC := Lib.hid hc; clear hc
  go_enter Tryd.func34, Tryd.ntmps34
  go_wp2_with fail
  refine (HC.out _).mono ?_
  rintro e w1 ⟨rfl, hb⟩
  obtain ⟨⟨l1, c0, c1, f0, f1⟩, ⟨l2, d0, d1, g0, g1⟩, ⟨l3, e0, e1, i0, i1⟩, hB⟩ := box3 hb; clear hb
  go_wp2_with fail
  exact bodyPost_ret (v := .tuple #[.agg #[.int .u32 0, .int .i64 0], .agg #[.int .u32 0, .int .i64 0], .iface 29 (.int .i64 k)]) (by simp [results, Tryd.results34, go_sem, d0, d1, e0, e1]) rfl ⟨rfl, (((hB.setCell (by simp) _).setCell (by simp) _).setCell (by simp; omega) _).setCell (by simp; omega) _⟩

set_option maxHeartbeats 400000 in
theorem halves_none (a : Nat) (ha : a < 4294967296) (w : World) :
    Calls Tryd.prog 34 #[.agg #[.int .u32 a, .int .i64 32]] w fun e w' => e = .returned (.tuple #[.agg #[.int .u32 0, .int .i64 0], .agg #[.int .u32 0, .int .i64 0], .iface 29 (.int .i64 2)]) ∧ Below w.heap.size w w' := by
  have HC := Lib.hid (check_ok a 32 ha (by decide) (PrefP.cut_all a ha))
  go_enter Tryd.func34, Tryd.ntmps34
  go_wp2_with fail
  refine (HC.out _).mono ?_
  rintro e w1 ⟨rfl, hb⟩
  obtain ⟨⟨l1, c0, c1, f0, f1⟩, ⟨l2, d0, d1, g0, g1⟩, ⟨l3, e0, e1, i0, i1⟩, hB⟩ := box3 hb; clear hb
  go_wp2_with fail
  exact bodyPost_ret (v := .tuple #[.agg #[.int .u32 0, .int .i64 0], .agg #[.int .u32 0, .int .i64 0], .iface 29 (.int .i64 2)]) (by simp [results, Tryd.results34, go_sem, d0, d1, e0, e1]) rfl ⟨rfl, (((hB.setCell (by simp) _).setCell (by simp) _).setCell (by simp; omega) _).setCell (by simp; omega) _⟩

set_option maxHeartbeats 400000 in
theorem halves_yes (a n : Nat) (ha : a < 4294967296) (hn : n < 32) (hc : PrefP.cut a n = a) (w : World) :
    Calls Tryd.prog 34 #[.agg #[.int .u32 a, .int .i64 n]] w fun e w' => e = .returned (.tuple #[.agg #[.int .u32 a, .int .i64 ((n : Int) + 1)], .agg #[.int .u32 ((a ||| PrefP.bit n : Nat) : Int), .int .i64 ((n : Int) + 1)], .nilIface]) ∧ Below w.heap.size w w' := by
  have HC := Lib.hid (check_ok a n ha (by omega) hc); clear hc
  have h2 : ((n : Int) == 32) = false := by
    have h1 : ¬ ((n : Int) = 32) := by omega
    simpa using h1
  have h3 : ¬ (32 - ((n : Int) + 1) < 0) := by omega
  have h4 : ¬ (32 < (n : Int) + 1) := by omega
  go_enter Tryd.func34, Tryd.ntmps34
  go_wp2_with fail
  refine (HC.out _).mono ?_
  rintro e w1 ⟨rfl, hb⟩
  obtain ⟨⟨l1, c0, c1, f0, f1⟩, ⟨l2, d0, d1, g0, g1⟩, ⟨l3, e0, e1, i0, i1⟩, hB⟩ := box3 hb; clear hb
  go_wp2_with fail
  go_region
  go_wp2_with fail
  rw [PrefP.or_int a n ha]
  exact bodyPost_ret (v := .tuple #[.agg #[.int .u32 a, .int .i64 ((n : Int) + 1)], .agg #[.int .u32 ((a ||| PrefP.bit n : Nat) : Int), .int .i64 ((n : Int) + 1)], .nilIface]) (by simp [results, Tryd.results34, go_sem, d0, d1, e0, e1]) rfl ⟨rfl, ((((hB.setCell (by simp) _).setCell (by simp) _).setCell (by simp; omega) _).setCell (by simp; omega) _).drew⟩
end Go.Proofs.YtbdmfcnlfmnmdaaDoor
