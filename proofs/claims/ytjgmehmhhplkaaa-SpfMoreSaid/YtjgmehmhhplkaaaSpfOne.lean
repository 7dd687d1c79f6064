/-
  spf.Far at the statements' own link.
-/
import Derived.Test.YtjgmehmhhplkaaaSpfCode
import Derived.Test.YtjgmehmhhplkaaaOneLink
namespace Go.Proofs.Ytjgmehmhhplkaaa
open Go.RowKit Go.Lib

theorem one_right : gBad ((2 : Nat) : Int) [(0, 1, 3)] = 0 := by decide
theorem one_far : BellP.vec 2 (BellP.far 2 (BellP.ct [(0, 1, 3)]) 0) = [0, 3] := by decide
theorem one_far1 : (BellP.far 2 (BellP.ct [(0, 1, 3)]) 0 1 : Int) = 3 := by decide
/-- How far the other end is. -/
theorem one_any (w : World) (v : Value) (h : ArgK w v [(0, 1, 3)]) : Calls Try.prog 9 #[.int .i64 2, v, .int .i64 0] w fun e w' => ∃ f, w.heap.size ≤ f ∧ e = .returned (.tuple #[.slice (some ⟨f, 0, none⟩) 2 2, .nilIface]) ∧ Vec w' f 2 (fun i => (BellP.far 2 (BellP.ct [(0, 1, 3)]) 0 i : Int)) ∧ Below w.heap.size w w' :=
  far_ok w 2 0 v [(0, 1, 3)] (by decide) h one_right (by decide)
/-- The same, the link laid just ahead of it. -/
theorem one_at (w : World) : Calls Try.prog 9 #[.int .i64 2, .slice (some ⟨w.heap.size, 0, none⟩) 1 1, .int .i64 0] (w.alloc (.cells #[.int .i64 0, .int .i64 1, .int .i64 3] 42)) fun e w' => ∃ f, w.heap.size ≤ f ∧ e = .returned (.tuple #[.slice (some ⟨f, 0, none⟩) 2 2, .nilIface]) ∧ w'.cell? ⟨f, 1, none⟩ = some (.int .i64 3) ∧ Below w.heap.size w w' := by
  refine (one_any _ _ (one_arg w)).mono ?_
  rintro e w' ⟨f, hf, he, hv, hb⟩
  refine ⟨f, Nat.le_trans (by simp) hf, he, ?_, Below.two ((Below.refl w.heap.size w).alloc (Nat.le_refl _) _) hb⟩
  have := hv.c 1 (by decide)
  rwa [one_far1] at this
/-- spf.Far at whatever: a list and an error. -/
theorem far_some (w : World) (n fr : Int) (v : Value) (l : List Lk) (hn : l.length < 4611686018427387904) (h : ArgK w v l) : Calls Try.prog 9 #[.int .i64 n, v, .int .i64 fr] w fun e w' => ∃ x y, e = .returned (.tuple #[x, y]) ∧ Below w.heap.size w w' := by
  by_cases hg : spfBad n l fr = 0
  · obtain ⟨m, t, rfl, rfl, _, _, ht, h0, _⟩ := spf_nat hg
    exact (far_ok w m t v l hn h h0 ht).mono fun _ _ ⟨f, _, he, _, hb⟩ => ⟨_, _, he, hb⟩
  · exact (far_bad w n fr v l hn h hg).mono fun _ _ ⟨he, hb⟩ => ⟨_, _, he, hb⟩
end Go.Proofs.Ytjgmehmhhplkaaa
