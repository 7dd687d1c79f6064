/-
  One link, two numbers in a block of its own; a list laid, read.
-/
import Derived.Test.YtomfkmclgabcpaaDoorLinkList
import Derived.Test.YtomfkmclgabcpaaDoorBellPlain
import Derived.Test.YtomfkmclgabcpaaDoorVec
namespace Go.Proofs.YtomfkmclgabcpaaDoor
open Go.RowKit Go.Lib

theorem one_right : gBad ((2 : Nat) : Int) [(0, 1, 3)] = 0 := by decide
/-- One link in a block of its own. -/
theorem one_arg (w : World) : ArgK (w.alloc (.cells #[.int .i64 0, .int .i64 1, .int .i64 3] 48)) (.slice (some ⟨w.heap.size, 0, none⟩) 1 1) [(0, 1, 3)] := by
  have X := Box3.new w (.int .i64 0) (.int .i64 1) (.int .i64 3) 48
  exact ⟨_, 1, rfl, Or.inr ⟨w.heap.size, 0, rfl, X.lt, ⟨fun i hi => by
    obtain rfl : i = 0 := by simpa using hi
    exact X.c0, fun i hi => by
    obtain rfl : i = 0 := by simpa using hi
    exact X.c1, fun i hi => by
    obtain rfl : i = 0 := by simpa using hi
    exact X.c2⟩⟩⟩
/-- Two numbers in a block of its own. -/
theorem two_arg (w : World) (x y : Int) : ArgI (w.alloc (.cells #[.int .i64 x, .int .i64 y] 3)) (.slice (some ⟨w.heap.size, 0, none⟩) 2 2) [x, y] := by
  have B := Box.new w (.int .i64 x) (.int .i64 y) 3
  refine ⟨_, 2, rfl, Or.inr ⟨_, 0, rfl, B.lt, fun j hj => ?_⟩⟩
  match j, hj with
  | 0, _ => exact B.c0
  | 1, _ => exact B.c1
theorem Vec.argV {w : World} {g n : Nat} {d : Nat → Nat} (h : Vec w g n (fun i => (d i : Int))) : ArgI w (.slice (some ⟨g, 0, none⟩) n n) (BellP.vec n d) := h.arg
end Go.Proofs.YtomfkmclgabcpaaDoor
