/-
  wire.Encode at every message, told at once.
-/
import Derived.Test.YtlgkjbkbdmneaaaDoorWireEnc
namespace Go.Proofs.YtlgkjbkbdmneaaaDoor
open Go.RowKit
/-- What Encode gives: the bytes of a right message, else none. -/
def encR (ask : Bool) (l : List En) : List Nat := if WireP.chkM l = 0 then enc ask l else []
theorem encode_u (w : World) (ask : Bool) (v : Value) (l : List En) (hn : l.length < 4611686018427387904) (h : ArgE w v l) (hok : ∀ e ∈ l, e.Fits) :
    Calls Tryd.prog 12 #[.agg #[.bool ask, v]] w fun x w' => ∃ v', x = .returned (.tuple #[v', errV (WireP.chkM l)]) ∧ OwnB w' w.heap.size v' (encR ask l) ∧ Below w.heap.size w w' := by
  by_cases hg : WireP.chkM l = 0
  · refine (encode_ok w ask v l h ((GoodM.iff l hok).1 hg)).mono ?_
    rintro x w1 ⟨v1, rfl, o1, b1⟩
    exact ⟨v1, by rw [hg]; rfl, by rw [encR, if_pos hg]; exact o1, b1⟩
  · refine (encode_bad w ask v l hn h hok hg).mono ?_
    rintro x w1 ⟨rfl, b1⟩
    exact ⟨_, rfl, by rw [encR, if_neg hg]; exact OwnB.nil _ _, b1⟩
theorem encR_len (ask : Bool) (l : List En) (hok : ∀ e ∈ l, e.Fits) : (encR ask l).length ≤ 504 := by
  by_cases hg : WireP.chkM l = 0
  · rw [encR, if_pos hg, enc_len]
    have := ((GoodM.iff l hok).1 hg).few
    omega
  · rw [encR, if_neg hg]; simp
end Go.Proofs.YtlgkjbkbdmneaaaDoor
