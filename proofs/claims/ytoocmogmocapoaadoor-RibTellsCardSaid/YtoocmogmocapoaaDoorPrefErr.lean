/-
  pref.Check at every network: its error's value.
-/
import Derived.Test.YtoocmogmocapoaaDoorPrefCheck
import Derived.Test.YtoocmogmocapoaaDoorNetList
import Derived.Test.YtoocmogmocapoaaDoorErrV
namespace Go.Proofs.YtoocmogmocapoaaDoor
open Go.RowKit

theorem drop_at (l : List Nt) (k : Nat) (h : k < l.length) : l.drop k = l[k]! :: l.drop (k + 1) := by
  rw [List.drop_eq_getElem_cons h, getElem!_pos l k h]

theorem check1_any (a : Nat) (z : Int) (ha : a < 4294967296) (w : World) :
    Calls Tryd.prog 23 #[.agg #[.int .u32 a, .int .i64 z]] w fun e w' => e = .returned (errV (PrefP.chk a z)) ∧ Below w.heap.size w w' := by
  rcases PrefP.chk_cases a z with ⟨h, h1⟩ | ⟨n, rfl, hn, hc, h1⟩ | ⟨n, rfl, hn, hc, h1⟩
  · rw [h1]; exact check_range a z h w
  · rw [h1]; exact check_form a n ha hn hc w
  · rw [h1]; exact check_ok a n ha hn hc w
end Go.Proofs.YtoocmogmocapoaaDoor
