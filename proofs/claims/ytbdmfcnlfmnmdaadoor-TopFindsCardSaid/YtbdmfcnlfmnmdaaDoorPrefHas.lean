/-
  pref.Has at every network and every address; what lay in memory stays.
-/
import Derived.Test.YtbdmfcnlfmnmdaaDoorPrefCheck
namespace Go.Proofs.YtbdmfcnlfmnmdaaDoor
open Go.RowKit

set_option maxHeartbeats 400000 in
theorem has_any (a : Nat) (z : Int) (x : Nat) (hx : x < 4294967296) (w : World) :
    Calls Tryd.prog 43 #[.agg #[.int .u32 a, .int .i64 z], .int .u32 x] w fun e w' => e = .returned (.bool (PrefP.has a z x)) ∧ Below w.heap.size w w' := by
  by_cases h : z < 0 ∨ 32 < z
  · rw [PrefP.has_range a z x h]
    have H := Lib.hid h; clear h
    go_enter Tryd.func43, Tryd.ntmps43
    go_wp2_with fail
    refine (around_no x z H.out _).mono ?_
    rintro e w1 ⟨rfl, hb⟩
    obtain ⟨⟨l1, c0, c1, f0, f1⟩, hB⟩ := box1 hb; clear hb
    go_wp2_with fail
    go_ret
    exact ⟨rfl, hB.alloc (by omega) _⟩
  · obtain ⟨n, rfl⟩ := Int.eq_ofNat_of_zero_le (show 0 ≤ z by omega)
    rw [PrefP.has_eq a n x (by omega)]
    have HC := Lib.hid (around_yes x n hx (by omega)); clear h
    go_enter Tryd.func43, Tryd.ntmps43
    go_wp2_with fail
    refine (HC.out _).mono ?_
    rintro e w1 ⟨rfl, hb⟩
    obtain ⟨⟨l1, c0, c1, f0, f1⟩, hB⟩ := box1 hb; clear hb
    go_wp2_with fail
    all_goals
      rename_i hq
      go_ret
      exact ⟨by simp [hq], hB.alloc (by omega) _⟩
end Go.Proofs.YtbdmfcnlfmnmdaaDoor
