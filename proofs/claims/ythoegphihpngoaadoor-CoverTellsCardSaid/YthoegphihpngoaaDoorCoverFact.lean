/-
  waywardenlaw1.covered answers true: both halves of 10.0.0.0/8 make it; what lay in memory stays.
-/
import Derived.Test.YthoegphihpngoaaDoorCoverGood
namespace Go.Proofs.YthoegphihpngoaaDoor
open Go.RowKit Go.Lib

def half0 : Nt := (167772160, 9)
def half1 : Nt := (176160768, 9)
theorem halves_ok : badL [half0, half1] = 0 := by decide +kernel
theorem halves_wh : wh half0 half1 = some (167772160, 8) := wh_yes 167772160 8 (by decide +kernel)
theorem halves_cov : covE [half0, half1] = [(167772160, 8)] := by
  have e : srt [half0, half1] = [half0, half1] := List.Perm.eq_of_pairwise (le := fun x y => Nt.lt y x = false) (fun a b _ _ h1 h2 => Nt.tot a b h2 h1) (srt_sorted _) (by
    rw [List.pairwise_cons]
    exact ⟨fun y hy => by rw [List.mem_singleton] at hy; subst hy; decide +kernel, by simp⟩) (srt_perm _)
  unfold covE
  rw [if_pos halves_ok]
  unfold cov
  rw [e, covR, stepR, joinR_few [half0] (by simp), covR, stepR, if_neg (by decide +kernel), joinR_go half1 half0 _ [] halves_wh, joinR_few _ (by simp), covR]
  rfl

set_option maxHeartbeats 1000000 in
set_option maxRecDepth 100000 in
theorem covered_any (w : World) :
    Calls Tryd.prog 4 #[] w fun e w' => e = .returned (.bool true) ∧ Below w.heap.size w w' := by
  go_enter Tryd.func4, Tryd.ntmps4
  go_wp2_with fail
  have A3 : Arg (w.alloc (.cells #[.int .u32 167772160, .int .i64 9, .int .u32 176160768, .int .i64 9] 29)) (.slice (some ⟨w.heap.size, 0, none⟩) 2 2) [half0, half1] :=
    ⟨_, 2, rfl, Or.inr ⟨w.heap.size, 0, rfl, by simp, Seen.of fun j u hu => by
      match j, hu with
      | 0, hu => simp [cellsL] at hu; subst hu; simp [Nt.v0, half0]
      | 1, hu => simp [cellsL] at hu; subst hu; simp [Nt.v1, half0]
      | 2, hu => simp [cellsL] at hu; subst hu; simp [Nt.v0, half1]
      | 3, hu => simp [cellsL] at hu; subst hu; simp [Nt.v1, half1]⟩⟩
  refine (cover_any _ _ _ A3 (by simp) (by simp [half0, half1])).mono ?_
  rintro e w1 ⟨v1, rfl, o1, b1⟩
  rw [halves_cov] at o1
  rw [halves_ok, show errV 0 = Value.nilIface from rfl]
  obtain ⟨p1, c1, rfl, h1⟩ := o1.arg
  rcases h1 with h1 | ⟨b, off, rfl, hb, hs⟩
  · simp at h1
  have s0 : w1.cell? ⟨b, off, none⟩ = some (.int .u32 167772160) := by simpa [Nt.v0] using hs.c0 0 (by simp)
  have s1 : w1.cell? ⟨b, off + 1, none⟩ = some (.int .i64 8) := by simpa [Nt.v1] using hs.c1 0 (by simp)
  have bb : Below w.heap.size w w1 := ((Below.refl _ w).alloc (Nat.le_refl _) _).trans (b1.mono (by simp))
  clear o1 hs A3 b1
  go_wp2_with fail
  go_ret
  exact ⟨rfl, bb⟩
end Go.Proofs.YthoegphihpngoaaDoor
