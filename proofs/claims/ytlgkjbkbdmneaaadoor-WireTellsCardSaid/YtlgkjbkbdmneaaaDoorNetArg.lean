/-
  An argument that is a network (a struct of two numbers, by value): opened to its numbers, and shut again.
-/
import Derived.Test.YtlgkjbkbdmneaaaDoorProg
import Derived.ProofKit
import Derived.OpenShut
import Derived.Lib.SmallJoins
namespace Go.Proofs.YtlgkjbkbdmneaaaDoor
open Go.ChangeShapes Go.WideShapes Go.ChangeAt Go.RowKit Go.Joins

theorem cellsNet : Tryd.prog.cellsOf 47 = 2 := by kernel_rfl
variable {H : Type} {enc : TypeId × Value → H} {w : World} {base : Nat} {spare : Nat → Bool} {held : Bool}
set_option maxRecDepth 100000 in
theorem open_net {r : Reach} {b0 : Nat} {v : Value} {d : DataW H} {p : List MemPlace} (hv : Value.okWide Tryd.prog w r b0 47 v) (h : DataW.Trod enc Tryd.prog w base spare held 47 v d p) :
    ∃ (a : Nat) (l : Int), v = .agg #[.int .u32 (a : Int), .int .i64 l] ∧ d = .agg [.lit (.int .u32 (a : Int)), .lit (.int .i64 l)] ∧ p = [] ∧ (Lit.int .u32 (a : Int)).wf = true ∧ (Lit.int .i64 l).wf = true ∧ a < 4294967296 := by
  obtain ⟨c0, c1, y0, y1, m, rfl, rfl, rfl, hy0, hy1⟩ := open_agg2 Tryd.underlying47 (by kernel_rfl) cellsNet hv h
  obtain ⟨a, e0, rfl, wa⟩ := DataW.trod_int Tryd.underlying45 hy0
  obtain ⟨b, e1, rfl, wb⟩ := DataW.trod_int Tryd.underlying3 hy1
  simp at e0 e1
  subst e0 e1
  have hb := bounds_u32 wa
  obtain ⟨n, rfl⟩ := Int.eq_ofNat_of_zero_le hb.1
  exact ⟨n, b, rfl, rfl, rfl, wa, wb, by omega⟩
set_option maxRecDepth 100000 in
theorem shut_net {a : Nat} {l : Int} (wa : (Lit.int .u32 (a : Int)).wf = true) (wl : (Lit.int .i64 l).wf = true) :
    DataW.Trod enc Tryd.prog w base spare held 47 (.agg #[.int .u32 (a : Int), .int .i64 l]) (.agg [.lit (.int .u32 (a : Int)), .lit (.int .i64 l)]) [] :=
  shut_agg2 (y0 := (.lit (.int .u32 a), [])) (y1 := (.lit (.int .i64 l), [])) Tryd.underlying47 (by kernel_rfl) cellsNet ⟨1, by simp [DataW.trod, Tryd.underlying45, wa]⟩ ⟨1, by simp [DataW.trod, Tryd.underlying3, wl]⟩
end Go.Proofs.YtlgkjbkbdmneaaaDoor
