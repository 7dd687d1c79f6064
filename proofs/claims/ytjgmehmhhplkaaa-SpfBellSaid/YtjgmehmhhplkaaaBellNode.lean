/-
  bell.checkNode; what is right with what nodes think.
-/
import Derived.Test.YtjgmehmhhplkaaaBellPlain
import Derived.Test.YtjgmehmhhplkaaaErrV
import Derived.Test.YtjgmehmhhplkaaaDist
import Derived.LoopN
namespace Go.Proofs.Ytjgmehmhhplkaaa
open Go.RowKit Go.Lib

/-- The fault of a node. -/
def nodeBad (n to : Int) : Int := if to < 0 ∨ n ≤ to then 1 else 0
theorem nodeBad_zero (n to : Int) : nodeBad n to = 0 ↔ 0 ≤ to ∧ to < n := by
  unfold nodeBad; split
  · constructor
    · intro h; omega
    · intro h; omega
  · constructor
    · intro _; omega
    · intro _; rfl
/-- The fault of what nodes think. -/
def estBad (n : Int) (d : List Int) : Int := if (d.length : Int) ≠ n then 3 else if ∀ x ∈ d, 0 ≤ x ∧ x ≤ 16 then 0 else 1
/-- What is right is a list of distances. -/
theorem est_vec {n : Nat} {d : List Int} (h : estBad n d = 0) : ∃ D : Nat → Nat, d = BellP.vec n D ∧ ∀ i, D i ≤ 16 := by
  unfold estBad at h
  split at h
  · omega
  · rename_i hl
    split at h
    · rename_i ha
      have hl : d.length = n := by omega
      subst hl
      have hr : ∀ i, i < d.length → 0 ≤ d[i]! ∧ d[i]! ≤ 16 := fun i hi => ha _ (memAt hi)
      refine ⟨fun i => if i < d.length then d[i]!.toNat else 0, ?_, fun i => ?_⟩
      · apply List.ext_getElem
        · rw [BellP.vec_len]
        · intro i h1 h2
          have h3 := BellP.vec_at d.length (fun i => if i < d.length then d[i]!.toNat else 0) i h1
          rw [getElem!_pos _ i h2] at h3
          rw [h3]
          have := hr i h1
          rw [if_pos h1, ← getElem!_pos d i h1]
          omega
      · show (if i < d.length then d[i]!.toNat else 0) ≤ 16
        split
        · rename_i hi
          have := hr i hi
          omega
        · omega
    · omega
theorem vec_est (n : Nat) (D : Nat → Nat) (h : ∀ i, i < n → D i ≤ 16) : estBad n (BellP.vec n D) = 0 := by
  unfold estBad
  rw [if_neg (by rw [BellP.vec_len]; omega), if_pos]
  intro x hx
  simp only [BellP.vec, rowTo, List.mem_map, List.mem_range] at hx
  obtain ⟨i, hi, rfl⟩ := hx
  have := h i hi
  omega

set_option maxHeartbeats 400000 in
set_option maxRecDepth 100000 in
/-- bell.checkNode. -/
theorem checkNode_any (w : World) (n to : Int) :
    Calls Try.prog 37 #[.int .i64 n, .int .i64 to] w fun e w' => e = .returned (errV (nodeBad n to)) ∧ w = w' := by
  by_cases h1 : to < 0
  · rw [show nodeBad n to = 1 from if_pos (Or.inl h1)]
    go_enter Try.func37, Try.ntmps37
    go_wp2_with fail
    go_ret
    exact ⟨rfl, rfl⟩
  · by_cases h2 : n ≤ to
    · rw [show nodeBad n to = 1 from if_pos (Or.inr h2)]
      go_enter Try.func37, Try.ntmps37
      go_wp2_with fail
      go_ret
      exact ⟨rfl, rfl⟩
    · rw [show nodeBad n to = 0 from if_neg (by omega)]
      go_enter Try.func37, Try.ntmps37
      go_wp2_with fail
      go_ret
      exact ⟨rfl, rfl⟩
end Go.Proofs.Ytjgmehmhhplkaaa
