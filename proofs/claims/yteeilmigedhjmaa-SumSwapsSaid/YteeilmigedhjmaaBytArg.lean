/-
  An argument that is a list of bytes: opened to what it is; its bytes appended to a list that the call owns.
-/
import Derived.Test.YteeilmigedhjmaaByteList
import Derived.ProofKit
import Derived.OpenShut
import Derived.Lib.SmallJoins
import Derived.Deep.SlicePairs
import Derived.SizedLaws
import Derived.ChangeSlices
import Derived.Carry
namespace Go.Proofs.Yteeilmigedhjmaa
open Go.ChangeShapes Go.WideShapes Go.ChangeAt Go.RowKit Go.Joins Go.Deep

theorem laidOut : laidOutB Try.prog = true := by kernel_rfl
theorem bytesByte : Try.prog.bytesOf 5 = 1 := by kernel_rfl
variable {H : Type} {enc : TypeId × Value → H} {w : World}

set_option maxRecDepth 100000 in
set_option maxHeartbeats 1000000 in
/-- A list of bytes. -/
theorem open_bytes {r : Reach} {b0 : Nat} {v : Value} {d : DataW H} {p : List MemPlace} (hv : Value.okWide Try.prog w r b0 22 v) (h : DataW.Trod enc Try.prog w 0 (fun _ => true) true 22 v d p) :
    ∃ l : List Nat, ArgB w v l ∧ Byt l ∧ (l = [] ∨ ∃ es sp, d = .slice es sp ∧ es.length = l.length) := by
  obtain ⟨q, n0, c, rfl⟩ := okWide_slice Try.underlying22 hv
  obtain ⟨fuel, hf⟩ := h
  rcases open_ints Try.underlying22 Try.underlying5 (by kernel_rfl) hf with ⟨hcs, _⟩ | ⟨a, len, cap, zs, hcs, _, hl, _, hz, hx, hcell, hwf⟩
  · simp [Value.cells] at hcs
    obtain ⟨rfl, rfl, rfl⟩ := hcs
    exact ⟨[], ⟨none, 0, rfl, Nat.le_refl _, Or.inl rfl⟩, fun x hx => by simp at hx, Or.inl rfl⟩
  · simp [Value.cells] at hcs
    obtain ⟨rfl, rfl, rfl⟩ := hcs
    simp only [if_true] at hz
    have hn : ∀ i, i < zs.length → ∃ k : Nat, zs.getD i 0 = (k : Int) ∧ k < 256 := fun i hi => by
      have e : zs.getD i 0 = zs[i] := by rw [List.getD_eq_getElem?_getD, List.getElem?_eq_getElem hi]; rfl
      have := bounds_u8 (hwf zs[i] (List.getElem_mem hi))
      exact ⟨zs[i].toNat, by rw [e]; omega, by omega⟩
    obtain ⟨f, hf2⟩ := choose_lt hn
    have hlen : ((List.range n0).map f).length = n0 := by simp
    have hget : ∀ i, i < n0 → ((List.range n0).map f)[i]! = f i := fun i hi => by rw [getElem!_pos _ i (by simpa using hi)]; simp
    refine ⟨(List.range n0).map f, ⟨some a, c, by rw [hlen], by rw [hlen]; exact hl, ?_⟩, ?_, Or.inr ⟨_, _, (Prod.mk.inj hx).1, by simp [lits]; omega⟩⟩
    · rcases Nat.eq_zero_or_pos n0 with h0 | h0
      · subst h0; exact Or.inl rfl
      · obtain ⟨b, off, spot⟩ := a
        have hc0 := hcell 0 (by omega)
        have hs : spot = none := by
          cases spot with
          | none => rfl
          | some s =>
            exfalso
            simp only [Addr.add, World.cell?] at hc0
            split at hc0 <;> simp at hc0
        subst hs
        refine Or.inr ⟨b, off, rfl, World.block_lt_of_cell? _ _ hc0, fun i hi => ?_⟩
        rw [hlen] at hi
        have := hcell i (by omega)
        rw [Addr.add_lit, (hf2 i (by omega)).1] at this
        rw [hget i hi]
        exact this
    · intro x hx
      rw [List.mem_map] at hx
      obtain ⟨i, hi, rfl⟩ := hx
      exact (hf2 i (by have := List.mem_range.1 hi; omega)).2

/-- A slice's value: none, or one with a place. -/
def Sl (v : Value) : Prop := v = .slice none 0 0 ∨ ∃ a n c, v = .slice (some a) n c
set_option maxRecDepth 100000 in
theorem open_bytesS {r : Reach} {b0 : Nat} {v : Value} {d : DataW H} {p : List MemPlace} (hv : Value.okWide Try.prog w r b0 22 v) (h : DataW.Trod enc Try.prog w 0 (fun _ => true) true 22 v d p) : Sl v := by
  obtain ⟨q, n0, c, rfl⟩ := okWide_slice Try.underlying22 hv
  obtain ⟨fuel, hf⟩ := h
  rcases open_ints Try.underlying22 Try.underlying5 (by kernel_rfl) hf with ⟨hcs, _⟩ | ⟨a, len, cap, zs, hcs, _⟩
  · simp [Value.cells] at hcs
    obtain ⟨rfl, rfl, rfl⟩ := hcs
    exact Or.inl rfl
  · simp [Value.cells] at hcs
    obtain ⟨rfl, rfl, rfl⟩ := hcs
    exact Or.inr ⟨_, _, _, rfl⟩

theorem wp_append_BV {o : Oper} {a : Act} {K : Act → World → Prop} {Q : Exit → Act → World → Prop} {w : World} (s x : Operand) (ho : o.op = .call { callee := .builtin .append, args := #[s, x], argTypes := #[22, 22] })
    (base : Nat) (v0 v1 : Value) (l0 l1 : List Nat) (hs : a.eval s = v0) (hx : a.eval x = v1) (h0 : OwnB w base v0 l0) (h1 : ArgB w v1 l1) (hS : Sl v1) (hlen : l0.length + l1.length ≤ 140737488355328) (hbase : base ≤ w.heap.size)
    (h : ∀ v' w', OwnB w' base v' (l0 ++ l1) → Below base w w' → K (a.put o.dst v') w') : o.wp Try.prog a w K Q := by
  have hi : Try.prog.info? 5 = some infoB := by kernel_rfl
  obtain ⟨z, hz⟩ : ∃ z, infoB.zero = some z ∧ z.cells.size = 1 := ⟨.int .u8 0, by kernel_rfl, by kernel_rfl⟩
  have hby : infoB.bytes = 1 := by kernel_rfl
  have ht : Try.prog.underlying 22 = some (.slice 5) := by kernel_rfl
  obtain ⟨p, c, e, hc, h1⟩ := h1
  rcases hS with e2 | ⟨ad, n2, c2, e2⟩
  · rw [e2] at e
    injection e with e3 e4 e5
    have e6 : l1 = [] := List.length_eq_zero_iff.1 e4.symm
    subst e6
    have hrun := run_append_owned_none (P := Try.prog) (w := w) base 22 o.type 5 infoB 1 ht hi v0 l0.length (cellsB l0) h0
    unfold Oper.wp execOp
    simp only [ho, resolve, invoke, builtin, Sem.run_bind, Sem.run_pure, Result.andThen_ok, List.map_toArray, List.map_cons, List.map_nil, hs, hx, e2, hrun]
    exact h _ _ (by rw [List.append_nil]; exact h0) (Below.refl _ _)
  · rw [e2] at e
    injection e with e3 e4 e5
    subst e3 e4 e5
    have hcell : ∀ j u, (cellsB l1)[j]? = some u → w.cell? (ad.add j) = some u := by
      intro j u hu
      rcases h1 with h1 | ⟨b, off, hp, hb, hs1⟩
      · rw [h1] at hu; simp [cellsB] at hu
      · have : ad = ⟨b, off, none⟩ := Option.some.inj hp
        rw [this, Addr.add_lit]
        exact hs1.cells j u hu
    obtain ⟨v', w', hr, h2, h3, _⟩ := run_append_own (P := Try.prog) w base 22 o.type 5 infoB z 1 1 ht hi hz.1 (by kernel_rfl) hby hz.2 (by omega) v0 l0.length (cellsB l0) h0 ad l1.length c2 (cellsB l1) (by rw [cellsB_len]; omega) hcell (cellsB_one l1) (by simp only [maxLen]; omega) (by omega) hbase
    unfold Oper.wp execOp
    simp only [ho, resolve, invoke, builtin, Sem.run_bind, Sem.run_pure, Result.andThen_ok, List.map_toArray, List.map_cons, List.map_nil, hs, hx, e2, hr]
    refine h v' w' ?_ ((Below.refl _ w).grown h3 hbase ?_)
    · unfold OwnB
      rw [List.length_append, cellsB_app]
      exact h2
    · intro q hq
      exact (h0.lt q hq).1
end Go.Proofs.Yteeilmigedhjmaa
