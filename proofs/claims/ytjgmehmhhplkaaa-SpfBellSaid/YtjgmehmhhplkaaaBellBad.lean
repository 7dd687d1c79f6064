/-
  What is wrong with nodes, links, a node and what nodes think.
-/
import Derived.Test.YtjgmehmhhplkaaaBellRound
import Derived.Test.YtjgmehmhhplkaaaBellStart
import Derived.Test.YtjgmehmhhplkaaaGraphCosts
import Derived.Test.YtjgmehmhhplkaaaSliceEq
import Derived.Test.YtjgmehmhhplkaaaOneLink
namespace Go.Proofs.Ytjgmehmhhplkaaa
open Go.RowKit Go.Lib

/-- What is wrong with nodes, links, a node and what nodes think. -/
def runBad (n : Int) (l : List Lk) (to : Int) : Int := if gBad n l ≠ 0 then gBad n l else nodeBad n to
def roundBad (n : Int) (l : List Lk) (to : Int) (d : List Int) : Int := if runBad n l to ≠ 0 then runBad n l to else estBad n d
theorem runBad_zero {n : Int} {l : List Lk} {to : Int} : runBad n l to = 0 ↔ gBad n l = 0 ∧ 0 ≤ to ∧ to < n := by
  unfold runBad
  by_cases h : gBad n l = 0
  · rw [if_neg (by omega), nodeBad_zero]
    constructor
    · intro g; exact ⟨h, g⟩
    · intro g; exact g.2
  · rw [if_pos h]
    constructor
    · intro g; exact absurd g h
    · intro g; exact absurd g.1 h
theorem roundBad_zero {n : Int} {l : List Lk} {to : Int} {d : List Int} : roundBad n l to d = 0 ↔ runBad n l to = 0 ∧ estBad n d = 0 := by
  unfold roundBad
  by_cases h : runBad n l to = 0
  · rw [if_neg (by omega)]
    constructor
    · intro g; exact ⟨h, g⟩
    · intro g; exact g.2
  · rw [if_pos h]
    constructor
    · intro g; exact absurd g h
    · intro g; exact absurd g.1 h
/-- Right nodes, links and a node, as numbers. -/
theorem run_nat {n : Int} {l : List Lk} {to : Int} (h : runBad n l to = 0) : ∃ m t : Nat, n = m ∧ to = t ∧ 1 ≤ m ∧ m ≤ 8 ∧ t < m ∧ gBad m l = 0 ∧ Right m l := by
  obtain ⟨h1, h2, h3⟩ := runBad_zero.1 h
  obtain ⟨h4, h5⟩ := (gBad_zero n l).1 h1
  refine ⟨n.toNat, to.toNat, by omega, by omega, by omega, by omega, by omega, ?_, ?_⟩
  · rw [show ((n.toNat : Nat) : Int) = n by omega]; exact h1
  · rw [show ((n.toNat : Nat) : Int) = n by omega]; exact h5
theorem errV_ne {k : Int} (h : k ≠ 0) : errV k = .iface 60 (.int .i64 k) := if_neg h
/-- A list that is a vector, to be read. -/
theorem vec_arg {w : World} {v : Value} {n : Nat} {d : Nat → Nat} (h : ArgI w v (BellP.vec n d)) (hn : 1 ≤ n) : ∃ b off c, v = .slice (some ⟨b, off, none⟩) n c ∧ b < w.heap.size ∧ ∀ j, j < n → w.cell? ⟨b, off + j, none⟩ = some (.int .i64 (d j : Int)) := by
  obtain ⟨p, c, rfl, h | ⟨b, off, rfl, hb, hs⟩⟩ := h
  · have := congrArg List.length h; rw [BellP.vec_len] at this; simp at this; omega
  · refine ⟨b, off, c, by rw [BellP.vec_len], hb, fun j hj => ?_⟩
    rw [← BellP.vec_at n d j hj]
    exact hs j (by rw [BellP.vec_len]; exact hj)
theorem Vec.cells {w : World} {g n : Nat} {d : Nat → Int} (h : Vec w g n d) : ∀ j, j < n → w.cell? ⟨g, 0 + j, none⟩ = some (.int .i64 (d j)) := fun j hj => by rw [Nat.zero_add]; exact h.c j hj
end Go.Proofs.Ytjgmehmhhplkaaa
