/-
  The document's own answer Half (of a network of fewer than 32 bits); what lay in memory stays.
-/
import Derived.Test.YthoegphihpngoaaDoorRefNet
import Derived.Deep.RegionWith
namespace Go.Proofs.YthoegphihpngoaaDoor
open Go.RowKit

set_option maxHeartbeats 1000000 in
theorem half0_any (a n : Nat) (hn : n < 32) (w : World) :
    Calls Tryd.prog 16 #[.agg #[.int .u32 a, .int .i64 n], .int .i64 0] w fun e w' => e = .returned (.agg #[.int .u32 a, .int .i64 ((n : Int) + 1)]) ∧ Below w.heap.size w w' := by
  go_enter Tryd.func16, Tryd.ntmps16
  go_wp2_with fail
  exact bodyPost_ret (v := .agg #[.int .u32 a, .int .i64 ((n : Int) + 1)]) (by simp [results, Tryd.results16, go_sem]) rfl ⟨rfl, ((Below.refl _ _).alloc (Nat.le_refl _) _).alloc (by simp) _⟩

set_option maxHeartbeats 1000000 in
theorem half1_any (a n : Nat) (ha : a < 4294967296) (hn : n < 32) (w : World) :
    Calls Tryd.prog 16 #[.agg #[.int .u32 a, .int .i64 n], .int .i64 1] w fun e w' => e = .returned (.agg #[.int .u32 ((a ||| PrefP.bit n : Nat) : Int), .int .i64 ((n : Int) + 1)]) ∧ Below w.heap.size w w' := by
  have h0 : 0 ≤ 31 - (n : Int) := by omega
  have hor := PrefP.or_int a n ha
  go_enter Tryd.func16, Tryd.ntmps16
  go_wp2_with fail
  exact bodyPost_ret (v := .agg #[.int .u32 ((a ||| PrefP.bit n : Nat) : Int), .int .i64 ((n : Int) + 1)]) (by simp [results, Tryd.results16, go_sem]) rfl ⟨rfl, ((Below.refl _ _).alloc (Nat.le_refl _) _).alloc (by simp) _⟩
end Go.Proofs.YthoegphihpngoaaDoor
