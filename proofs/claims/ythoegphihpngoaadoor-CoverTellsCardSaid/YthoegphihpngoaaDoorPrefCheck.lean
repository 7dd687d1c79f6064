/-
  pref.Check and pref.Has at every network and every address; what lay in memory stays.
-/
import Derived.Test.YthoegphihpngoaaDoorPrefAround
import Derived.Test.YthoegphihpngoaaDoorBoxes
namespace Go.Proofs.YthoegphihpngoaaDoor
open Go.RowKit

set_option maxHeartbeats 400000 in
theorem check_range (a : Nat) (z : Int) (h : z < 0 ∨ 32 < z) (w : World) :
    Calls Tryd.prog 26 #[.agg #[.int .u32 a, .int .i64 z]] w fun e w' => e = .returned (.iface 25 (.int .i64 1)) ∧ Below w.heap.size w w' := by
  have H := Lib.hid h; clear h
  go_enter Tryd.func26, Tryd.ntmps26
  go_wp2_with fail
  refine (around_no a z H.out _).mono ?_
  rintro e w1 ⟨rfl, hb⟩
  obtain ⟨⟨l1, c0, c1, f0, f1⟩, hB⟩ := box1 hb; clear hb
  go_wp2_with fail
  go_ret
  exact ⟨rfl, hB.alloc (by omega) _⟩

set_option maxHeartbeats 400000 in
theorem check_ok (a n : Nat) (ha : a < 4294967296) (hn : n ≤ 32) (hc : PrefP.cut a n = a) (w : World) :
    Calls Tryd.prog 26 #[.agg #[.int .u32 a, .int .i64 n]] w fun e w' => e = .returned .nilIface ∧ Below w.heap.size w w' := by
  have C := around_yes a n ha hn
  rw [hc] at C
  have HC := Lib.hid C; clear C hc
  go_enter Tryd.func26, Tryd.ntmps26
  go_wp2_with fail
  refine (HC.out _).mono ?_
  rintro e w1 ⟨rfl, hb⟩
  obtain ⟨⟨l1, c0, c1, f0, f1⟩, hB⟩ := box1 hb; clear hb
  go_wp2_with fail
  go_ret
  exact ⟨rfl, hB.alloc (by omega) _⟩

set_option maxHeartbeats 400000 in
theorem check_form (a n : Nat) (ha : a < 4294967296) (hn : n ≤ 32) (hc : PrefP.cut a n ≠ a) (w : World) :
    Calls Tryd.prog 26 #[.agg #[.int .u32 a, .int .i64 n]] w fun e w' => e = .returned (.iface 25 (.int .i64 3)) ∧ Below w.heap.size w w' := by
  have HC := Lib.hid (around_yes a n ha hn)
  have ht : ((a : Int) == (PrefP.cut a n : Int)) = false := by
    have : ¬ ((a : Int) = (PrefP.cut a n : Int)) := by omega
    simpa using this
  clear hc
  go_enter Tryd.func26, Tryd.ntmps26
  go_wp2_with fail
  refine (HC.out _).mono ?_
  rintro e w1 ⟨rfl, hb⟩
  obtain ⟨⟨l1, c0, c1, f0, f1⟩, hB⟩ := box1 hb; clear hb
  go_wp2_with fail
  go_ret
  exact ⟨rfl, hB.alloc (by omega) _⟩

set_option maxHeartbeats 400000 in
theorem has_any (a : Nat) (z : Int) (x : Nat) (hx : x < 4294967296) (w : World) :
    Calls Tryd.prog 25 #[.agg #[.int .u32 a, .int .i64 z], .int .u32 x] w fun e w' => e = .returned (.bool (PrefP.has a z x)) ∧ Below w.heap.size w w' := by
  by_cases h : z < 0 ∨ 32 < z
  · rw [PrefP.has_range a z x h]
    have H := Lib.hid h; clear h
    go_enter Tryd.func25, Tryd.ntmps25
    go_wp2_with fail
    refine (around_no x z H.out _).mono ?_
    rintro e w1 ⟨rfl, hb⟩
    obtain ⟨⟨l1, c0, c1, f0, f1⟩, hB⟩ := box1 hb; clear hb
    go_wp2_with fail
    go_ret
    exact ⟨rfl, hB.alloc (by omega) _⟩
  · obtain ⟨n, rfl⟩ := Int.eq_ofNat_of_zero_le (show 0 ≤ z by omega)
    rw [PrefP.has_eq a n x (by omega)]
    have HC := Lib.hid (around_yes x n hx (by omega)); clear h
    go_enter Tryd.func25, Tryd.ntmps25
    go_wp2_with fail
    refine (HC.out _).mono ?_
    rintro e w1 ⟨rfl, hb⟩
    obtain ⟨⟨l1, c0, c1, f0, f1⟩, hB⟩ := box1 hb; clear hb
    go_wp2_with fail
    all_goals
      rename_i hq
      go_ret
      exact ⟨by simp [hq], hB.alloc (by omega) _⟩

set_option maxHeartbeats 400000 in
theorem less_any (a : Nat) (l : Int) (b : Nat) (k : Int) (w : World) :
    Calls Tryd.prog 30 #[.agg #[.int .u32 a, .int .i64 l], .agg #[.int .u32 b, .int .i64 k]] w fun e w' => e = .returned (.bool (PrefP.less a l b k)) ∧ Below w.heap.size w w' := by
  unfold PrefP.less
  by_cases h : a = b
  · subst h
    rw [if_pos rfl]
    go_enter Tryd.func30, Tryd.ntmps30
    go_wp2_with fail
    go_ret
    exact ⟨rfl, ((Below.refl _ _).alloc (Nat.le_refl _) _).alloc (by simp) _⟩
  · rw [if_neg h]
    have ht : ((a : Int) == (b : Int)) = false := by
      have : ¬ ((a : Int) = (b : Int)) := by omega
      simpa using this
    clear h
    go_enter Tryd.func30, Tryd.ntmps30
    go_wp2_with fail
    go_ret
    exact ⟨by simp, ((Below.refl _ _).alloc (Nat.le_refl _) _).alloc (by simp) _⟩
end Go.Proofs.YthoegphihpngoaaDoor
