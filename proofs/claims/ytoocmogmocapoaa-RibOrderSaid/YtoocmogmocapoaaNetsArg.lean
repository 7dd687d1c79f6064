/-
  An argument that is a slice of networks: opened to the list that it is.
-/
import Derived.Test.YtoocmogmocapoaaNetList
import Derived.Test.YtoocmogmocapoaaNetArg
import Derived.Deep.SlicePairs
import Derived.SizedLaws
import Derived.Carry
namespace Go.Proofs.Ytoocmogmocapoaa
open Go.ChangeShapes Go.WideShapes Go.ChangeAt Go.RowKit Go.Joins Go.Deep

theorem laidOut : laidOutB Try.prog = true := by kernel_rfl
theorem bytesNet : Try.prog.bytesOf 24 = 16 := by kernel_rfl
variable {H : Type} {enc : TypeId × Value → H} {w : World}
set_option maxRecDepth 100000 in
set_option maxHeartbeats 1000000 in
theorem open_nets {r : Reach} {b0 : Nat} {v : Value} {d : DataW H} {p : List MemPlace} (hv : Value.okWide Try.prog w r b0 38 v) (h : DataW.Trod enc Try.prog w 0 (fun _ => true) true 38 v d p) :
    ∃ l : List Nt, Arg w v l ∧ (∀ x ∈ l, x.1 < 4294967296) ∧ (l = [] ∨ ∃ es sp, d = .slice es sp ∧ es.length = l.length) := by
  obtain ⟨q, n0, c, rfl⟩ := okWide_slice Try.underlying38 hv
  obtain ⟨fuel, hf⟩ := h
  rcases open_slice_pairs Try.underlying38 Try.underlying24 cellsNet (by kernel_rfl) (by kernel_rfl) (by kernel_rfl) (by kernel_rfl) hf with ⟨hcs, _⟩ | ⟨a, len, cap, m, n, V0, V1, D0, D1, P0, P1, hcs, _, hl, hm, hmm, hx, hcell⟩
  · simp [Value.cells] at hcs
    obtain ⟨rfl, rfl, rfl⟩ := hcs
    exact ⟨[], ⟨none, 0, rfl, Or.inl rfl⟩, by simp, Or.inl rfl⟩
  · simp [Value.cells] at hcs
    obtain ⟨rfl, rfl, rfl⟩ := hcs
    simp only [if_true] at hmm
    subst hmm
    have each : ∀ i, i < m → ∃ x : Nt, V0 i = Nt.v0 x ∧ V1 i = Nt.v1 x ∧ x.1 < 4294967296 := by
      intro i hi
      obtain ⟨_, _, h0, h1⟩ := hcell i hi
      obtain ⟨z0, e0, _, w0⟩ := DataW.trod_int Try.underlying22 h0
      obtain ⟨z1, e1, _, _⟩ := DataW.trod_int Try.underlying3 h1
      simp at e0 e1
      have hb := bounds_u32 w0
      obtain ⟨k, rfl⟩ := Int.eq_ofNat_of_zero_le hb.1
      exact ⟨(k, z1), e0, e1, by simp only; omega⟩
    obtain ⟨f, hf2⟩ := choose_lt each
    have hlen : ((List.range n0).map f).length = n0 := by simp
    have hget : ∀ i, i < n0 → ((List.range n0).map f)[i]! = f i := fun i hi => by rw [getElem!_pos _ i (by simpa using hi)]; simp
    refine ⟨(List.range n0).map f, ⟨some a, m, by rw [hlen], ?_⟩, ?_, Or.inr ⟨_, _, (Prod.mk.inj hx).1, by simp⟩⟩
    · rcases Nat.eq_zero_or_pos n0 with h0 | h0
      · subst h0; exact Or.inl rfl
      · obtain ⟨b, off, spot⟩ := a
        have hc0 := (hcell 0 (by omega)).1
        have hs : spot = none := by
          cases spot with
          | none => rfl
          | some s =>
            exfalso
            simp only [Addr.add, World.cell?] at hc0
            split at hc0 <;> simp at hc0
        subst hs
        refine Or.inr ⟨b, off, rfl, ?_, ⟨fun i hi => ?_, fun i hi => ?_⟩⟩
        · exact World.block_lt_of_cell? _ _ hc0
        · rw [hlen] at hi
          have := (hcell i (by omega)).1
          rw [Addr.add_lit, (hf2 i (by omega)).1] at this
          rw [hget i hi]; exact this
        · rw [hlen] at hi
          have := (hcell i (by omega)).2.1
          rw [Addr.add_lit, (hf2 i (by omega)).2.1, ← Nat.add_assoc] at this
          rw [hget i hi]; exact this
    · intro x hx
      rw [List.mem_map] at hx
      obtain ⟨i, hi, rfl⟩ := hx
      exact (hf2 i (by have := List.mem_range.1 hi; omega)).2.2
end Go.Proofs.Ytoocmogmocapoaa
