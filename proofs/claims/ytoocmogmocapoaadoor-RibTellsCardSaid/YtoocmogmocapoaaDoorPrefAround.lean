/-
  pref.around at every address and every length; what lay in memory stays.
-/
import Derived.Test.YtoocmogmocapoaaDoorMaskMake
import Derived.Test.YtoocmogmocapoaaDoorPrefPlain
namespace Go.Proofs.YtoocmogmocapoaaDoor
open Go.RowKit

set_option maxHeartbeats 400000 in
theorem around_yes (a n : Nat) (ha : a < 4294967296) (hn : n ≤ 32) (w : World) :
    Calls Tryd.prog 34 #[.int .u32 a, .int .i64 n] w fun e w' => e = .returned (.tuple #[.agg #[.int .u32 (PrefP.cut a n : Int), .int .i64 n], .nilIface]) ∧ Below w.heap.size w w' := by
  have hc := PrefP.cut_int a n ha
  go_enter Tryd.func34, Tryd.ntmps34
  go_wp2_with fail
  refine (mask_yes n hn _).mono ?_
  rintro e w1 ⟨rfl, rfl⟩
  go_wp2_with fail
  exact bodyPost_ret (v := .tuple #[.agg #[.int .u32 (PrefP.cut a n : Int), .int .i64 n], .nilIface]) (by simp [results, Tryd.results34, go_sem]) rfl ⟨rfl, (Below.refl _ _).alloc (Nat.le_refl _) _⟩

set_option maxHeartbeats 400000 in
theorem around_no (a : Nat) (z : Int) (h : z < 0 ∨ 32 < z) (w : World) :
    Calls Tryd.prog 34 #[.int .u32 a, .int .i64 z] w fun e w' => e = .returned (.tuple #[.agg #[.int .u32 0, .int .i64 0], .iface 30 (.int .i64 1)]) ∧ Below w.heap.size w w' := by
  have H := Lib.hid h; clear h
  go_enter Tryd.func34, Tryd.ntmps34
  go_wp2_with fail
  refine (mask_no z H.out _).mono ?_
  rintro e w1 ⟨rfl, rfl⟩
  go_wp2_with fail
  exact bodyPost_ret (v := .tuple #[.agg #[.int .u32 0, .int .i64 0], .iface 30 (.int .i64 1)]) (by simp [results, Tryd.results34, go_sem]) rfl ⟨rfl, (Below.refl _ _).alloc (Nat.le_refl _) _⟩
end Go.Proofs.YtoocmogmocapoaaDoor
