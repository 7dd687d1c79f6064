/-
  An error is the one that was asked for; two empty lists are the same.
-/
import Derived.Test.YtomfkmclgabcpaaDoorErrOne
import Derived.Test.YtomfkmclgabcpaaDoorSameInts
namespace Go.Proofs.YtomfkmclgabcpaaDoor
open Go.RowKit Go.Lib

theorem errIs (q : Int) (h : q ≠ 0) (w : World) (hE : ErrType w) : Calls Tryd.prog 11 #[.iface 25 (.int .i64 q), .int .i64 q] w fun r w' => r = .returned (.bool true) ∧ Below w.heap.size w w' := by
  have := sameErr_any q q w hE
  rw [show errV q = .iface 25 (.int .i64 q) from if_neg h, beq_self_eq_true] at this
  exact this
theorem ints_none (w : World) : Calls Tryd.prog 14 #[.slice none 0 0, .slice none 0 0] w fun e w' => e = .returned (.bool true) ∧ Below w.heap.size w w' := by
  have := sameInts_any w (.slice none 0 0) (.slice none 0 0) [] [] (by simp) ⟨none, 0, rfl, Or.inl rfl⟩ ⟨none, 0, rfl, Or.inl rfl⟩
  rwa [decide_eq_true rfl] at this
theorem ints_same (w : World) (u v : Value) (l : List Int) (hn : l.length < 4611686018427387904) (h : ArgI w u l) (h' : ArgI w v l) : Calls Tryd.prog 14 #[u, v] w fun e w' => e = .returned (.bool true) ∧ Below w.heap.size w w' := by
  have := sameInts_any w u v l l hn h h'
  rwa [decide_eq_true rfl] at this
end Go.Proofs.YtomfkmclgabcpaaDoor
