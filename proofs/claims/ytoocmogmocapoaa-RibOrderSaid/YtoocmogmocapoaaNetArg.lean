/-
  An argument that is a network (a struct of two numbers, by value): opened to its numbers, and shut again.
-/
import Derived.Test.YtoocmogmocapoaaProg
import Derived.ProofKit
import Derived.OpenShut
import Derived.Lib.SmallJoins
namespace Go.Proofs.Ytoocmogmocapoaa
open Go.ChangeShapes Go.WideShapes Go.ChangeAt Go.RowKit Go.Joins

theorem cellsNet : Try.prog.cellsOf 24 = 2 := by kernel_rfl
variable {H : Type} {enc : TypeId × Value → H} {w : World} {base : Nat} {spare : Nat → Bool} {held : Bool}
set_option maxRecDepth 100000 in
theorem open_net {r : Reach} {b0 : Nat} {v : Value} {d : DataW H} {p : List MemPlace} (hv : Value.okWide Try.prog w r b0 24 v) (h : DataW.Trod enc Try.prog w base spare held 24 v d p) :
    ∃ (a : Nat) (l : Int), v = .agg #[.int .u32 (a : Int), .int .i64 l] ∧ d = .agg [.lit (.int .u32 (a : Int)), .lit (.int .i64 l)] ∧ p = [] ∧ (Lit.int .u32 (a : Int)).wf = true ∧ (Lit.int .i64 l).wf = true ∧ a < 4294967296 := by
  obtain ⟨c0, c1, y0, y1, m, rfl, rfl, rfl, hy0, hy1⟩ := open_agg2 Try.underlying24 (by kernel_rfl) cellsNet hv h
  obtain ⟨a, e0, rfl, wa⟩ := DataW.trod_int Try.underlying22 hy0
  obtain ⟨b, e1, rfl, wb⟩ := DataW.trod_int Try.underlying3 hy1
  simp at e0 e1
  subst e0 e1
  have hb := bounds_u32 wa
  obtain ⟨n, rfl⟩ := Int.eq_ofNat_of_zero_le hb.1
  exact ⟨n, b, rfl, rfl, rfl, wa, wb, by omega⟩
set_option maxRecDepth 100000 in
theorem shut_net {a : Nat} {l : Int} (wa : (Lit.int .u32 (a : Int)).wf = true) (wl : (Lit.int .i64 l).wf = true) :
    DataW.Trod enc Try.prog w base spare held 24 (.agg #[.int .u32 (a : Int), .int .i64 l]) (.agg [.lit (.int .u32 (a : Int)), .lit (.int .i64 l)]) [] :=
  shut_agg2 (y0 := (.lit (.int .u32 a), [])) (y1 := (.lit (.int .i64 l), [])) Try.underlying24 (by kernel_rfl) cellsNet ⟨1, by simp [DataW.trod, Try.underlying22, wa]⟩ ⟨1, by simp [DataW.trod, Try.underlying3, wl]⟩
end Go.Proofs.Ytoocmogmocapoaa
