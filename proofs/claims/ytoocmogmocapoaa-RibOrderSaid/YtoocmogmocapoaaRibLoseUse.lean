/-
  Lose, on a rib that the call has made.
-/
import Derived.Test.YtoocmogmocapoaaRibUse
import Derived.Test.YtoocmogmocapoaaRibLose
namespace Go.Proofs.Ytoocmogmocapoaa
open Go.RowKit Go.Lib RibP

/-- All that lay there stays, but for the rib itself. -/
theorem one_lose {w0 w : World} {p : Nat} {s : St} (h : OneB w0 w p s) (f t : Int) : Calls Try.prog 14 #[.pointer (some ⟨p, 0, none⟩), .int .i64 f, .int .i64 t] w fun r w' => r = .returned (errV (nearE s f t)) ∧ OneB w0 w' p (loseS s f t) ∧ Keep (fun x => x = p) w w' := by
  obtain ⟨v, h1, h2⟩ := h.step
  refine (rLose_any h1 f t).mono fun r w' ⟨e, hs⟩ => ⟨e, h2 _ _ hs, ?_⟩
  obtain ⟨_, _, _, hk⟩ := hs
  exact hk
end Go.Proofs.Ytoocmogmocapoaa
