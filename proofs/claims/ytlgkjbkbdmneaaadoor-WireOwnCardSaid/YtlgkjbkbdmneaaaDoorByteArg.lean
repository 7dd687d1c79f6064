/-
  An argument's bytes appended to a list that the call owns.
-/
import Derived.Test.YtlgkjbkbdmneaaaDoorMsgArg
namespace Go.Proofs.YtlgkjbkbdmneaaaDoor
open Go.ChangeShapes Go.WideShapes Go.ChangeAt Go.RowKit Go.Joins Go.Deep

/-- A slice's value: none, or one with a place. -/
def Sl (v : Value) : Prop := v = .slice none 0 0 ∨ ∃ a n c, v = .slice (some a) n c
variable {H : Type} {enc : TypeId × Value → H} {w : World}
set_option maxRecDepth 100000 in
theorem open_bytesS {r : Reach} {b0 : Nat} {v : Value} {d : DataW H} {p : List MemPlace} (hv : Value.okWide Tryd.prog w r b0 25 v) (h : DataW.Trod enc Tryd.prog w 0 (fun _ => true) true 25 v d p) : Sl v := by
  obtain ⟨q, n0, c, rfl⟩ := okWide_slice Tryd.underlying25 hv
  obtain ⟨fuel, hf⟩ := h
  rcases open_ints Tryd.underlying25 Tryd.underlying5 (by kernel_rfl) hf with ⟨hcs, _⟩ | ⟨a, len, cap, zs, hcs, _⟩
  · simp [Value.cells] at hcs
    obtain ⟨rfl, rfl, rfl⟩ := hcs
    exact Or.inl rfl
  · simp [Value.cells] at hcs
    obtain ⟨rfl, rfl, rfl⟩ := hcs
    exact Or.inr ⟨_, _, _, rfl⟩

theorem wp_append_BV {o : Oper} {a : Act} {K : Act → World → Prop} {Q : Exit → Act → World → Prop} {w : World} (s x : Operand) (ho : o.op = .call { callee := .builtin .append, args := #[s, x], argTypes := #[25, 25] })
    (base : Nat) (v0 v1 : Value) (l0 l1 : List Nat) (hs : a.eval s = v0) (hx : a.eval x = v1) (h0 : OwnB w base v0 l0) (h1 : ArgB w v1 l1) (hS : Sl v1) (hlen : l0.length + l1.length ≤ 140737488355328) (hbase : base ≤ w.heap.size)
    (h : ∀ v' w', OwnB w' base v' (l0 ++ l1) → Below base w w' → K (a.put o.dst v') w') : o.wp Tryd.prog a w K Q := by
  have hi : Tryd.prog.info? 5 = some infoB := by kernel_rfl
  obtain ⟨z, hz⟩ : ∃ z, infoB.zero = some z ∧ z.cells.size = 1 := ⟨.int .u8 0, by kernel_rfl, by kernel_rfl⟩
  have hby : infoB.bytes = 1 := by kernel_rfl
  have ht : Tryd.prog.underlying 25 = some (.slice 5) := by kernel_rfl
  obtain ⟨p, c, e, hc, h1⟩ := h1
  rcases hS with e2 | ⟨ad, n2, c2, e2⟩
  · rw [e2] at e
    injection e with e3 e4 e5
    have e6 : l1 = [] := List.length_eq_zero_iff.1 e4.symm
    subst e6
    have hrun := run_append_owned_none (P := Tryd.prog) (w := w) base 25 o.type 5 infoB 1 ht hi v0 l0.length (cellsB l0) h0
    unfold Oper.wp execOp
    simp only [ho, resolve, invoke, builtin, Sem.run_bind, Sem.run_pure, Result.andThen_ok, List.map_toArray, List.map_cons, List.map_nil, hs, hx, e2, hrun]
    exact h _ _ (by rw [List.append_nil]; exact h0) (Below.refl _ _)
  · rw [e2] at e
    injection e with e3 e4 e5
    subst e3 e4 e5
    have hcell : ∀ j u, (cellsB l1)[j]? = some u → w.cell? (ad.add j) = some u := by
      intro j u hu
      rcases h1 with h1 | ⟨b, off, hp, hb, hs1⟩
      · rw [h1] at hu; simp [cellsB] at hu
      · have : ad = ⟨b, off, none⟩ := Option.some.inj hp
        rw [this, Addr.add_lit]
        exact hs1.cells j u hu
    obtain ⟨v', w', hr, h2, h3, _⟩ := run_append_own (P := Tryd.prog) w base 25 o.type 5 infoB z 1 1 ht hi hz.1 (by kernel_rfl) hby hz.2 (by omega) v0 l0.length (cellsB l0) h0 ad l1.length c2 (cellsB l1) (by rw [cellsB_len]; omega) hcell (cellsB_one l1) (by simp only [maxLen]; omega) (by omega) hbase
    unfold Oper.wp execOp
    simp only [ho, resolve, invoke, builtin, Sem.run_bind, Sem.run_pure, Result.andThen_ok, List.map_toArray, List.map_cons, List.map_nil, hs, hx, e2, hr]
    refine h v' w' ?_ ((Below.refl _ w).grown h3 hbase ?_)
    · unfold OwnB
      rw [List.length_append, cellsB_app]
      exact h2
    · intro q hq
      exact (h0.lt q hq).1
end Go.Proofs.YtlgkjbkbdmneaaaDoor
