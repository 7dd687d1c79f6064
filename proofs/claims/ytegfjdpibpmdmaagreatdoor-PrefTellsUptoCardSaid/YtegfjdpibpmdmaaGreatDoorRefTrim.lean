/-
  The document's own answers Trim (to 0 to 32 bits) and Half (of a network of fewer than 32 bits); what lay in memory stays.
-/
import Derived.Test.YtegfjdpibpmdmaaGreatDoorRefNet
import Derived.Deep.RegionWith
namespace Go.Proofs.YtegfjdpibpmdmaaGreatDoor
open Go.RowKit

set_option maxHeartbeats 1000000 in
theorem trim_any (a : Nat) (l : Int) (n : Nat) (ha : a < 4294967296) (hn : n ≤ 32) (w : World) :
    Calls Tryz.prog 18 #[.agg #[.int .u32 a, .int .i64 l], .int .i64 n] w fun e w' => e = .returned (.agg #[.int .u32 (PrefP.cut a n : Int), .int .i64 n]) ∧ Below w.heap.size w w' := by
  have hi := PrefP.cut_int a n ha
  go_enter Tryz.func18, Tryz.ntmps18
  go_wp2_with fail
  go_region_with (go_at_call 24; refine (maskOf_any n hn _).mono ?_; rintro e w2 ⟨rfl, rfl⟩)
  all_goals
    go_wp2_with fail
    exact bodyPost_ret (v := .agg #[.int .u32 (PrefP.cut a n : Int), .int .i64 n]) (by simp [results, Tryz.results18, go_sem]) rfl ⟨rfl, (((Below.refl _ _).alloc (Nat.le_refl _) _).alloc (by simp) _).drew⟩

set_option maxHeartbeats 1000000 in
theorem half0_any (a n : Nat) (hn : n < 32) (w : World) :
    Calls Tryz.prog 19 #[.agg #[.int .u32 a, .int .i64 n], .int .i64 0] w fun e w' => e = .returned (.agg #[.int .u32 a, .int .i64 ((n : Int) + 1)]) ∧ Below w.heap.size w w' := by
  go_enter Tryz.func19, Tryz.ntmps19
  go_wp2_with fail
  exact bodyPost_ret (v := .agg #[.int .u32 a, .int .i64 ((n : Int) + 1)]) (by simp [results, Tryz.results19, go_sem]) rfl ⟨rfl, ((Below.refl _ _).alloc (Nat.le_refl _) _).alloc (by simp) _⟩

set_option maxHeartbeats 1000000 in
theorem half1_any (a n : Nat) (ha : a < 4294967296) (hn : n < 32) (w : World) :
    Calls Tryz.prog 19 #[.agg #[.int .u32 a, .int .i64 n], .int .i64 1] w fun e w' => e = .returned (.agg #[.int .u32 ((a ||| PrefP.bit n : Nat) : Int), .int .i64 ((n : Int) + 1)]) ∧ Below w.heap.size w w' := by
  have h0 : 0 ≤ 31 - (n : Int) := by omega
  have hor := PrefP.or_int a n ha
  go_enter Tryz.func19, Tryz.ntmps19
  go_wp2_with fail
  exact bodyPost_ret (v := .agg #[.int .u32 ((a ||| PrefP.bit n : Nat) : Int), .int .i64 ((n : Int) + 1)]) (by simp [results, Tryz.results19, go_sem]) rfl ⟨rfl, ((Below.refl _ _).alloc (Nat.le_refl _) _).alloc (by simp) _⟩
end Go.Proofs.YtegfjdpibpmdmaaGreatDoor
