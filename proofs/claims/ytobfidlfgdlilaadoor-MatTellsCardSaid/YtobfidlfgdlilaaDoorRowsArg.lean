/-
  An argument that is a list of rows of numbers: opened to the lists that it is; how long they are.
-/
import Derived.Test.YtobfidlfgdlilaaDoorSameRows
import Derived.ChangeSlices
import Derived.Deep.SlicePairs
import Derived.SizedLaws
import Derived.Carry
import Derived.Lib.SmallJoins
import Derived.ProofKit
import Derived.OpenShut
namespace Go.Proofs.YtobfidlfgdlilaaDoor
open Go.ChangeShapes Go.WideShapes Go.ChangeAt Go.RowKit Go.Joins Go.Deep

theorem laidOut : laidOutB Tryd.prog = true := by kernel_rfl
theorem bytesRow : Tryd.prog.bytesOf 39 = 24 := by kernel_rfl
theorem bytesInt : Tryd.prog.bytesOf 3 = 8 := by kernel_rfl
/-- How a datum tells a row. -/
def RowD {H : Type} (d : DataW H) (l : List Int) : Prop := l = [] ∨ ∃ es sp, d = .slice es sp ∧ es.length = l.length
/-- How a datum tells a list of rows. -/
def RowsD {H : Type} (d : DataW H) (M : List (List Int)) : Prop := M = [] ∨ ∃ es sp, d = .slice es sp ∧ es.length = M.length ∧ ∀ i, i < M.length → ∃ y, es[i]? = some y ∧ RowD y M[i]!
variable {H : Type} {enc : TypeId × Value → H} {w : World}
set_option maxRecDepth 100000 in
set_option maxHeartbeats 1000000 in
theorem row_of {fuel : Nat} {v : Value} {d : DataW H} {p : List MemPlace} (hf : DataW.trod enc Tryd.prog w 0 (fun _ => true) true fuel 39 [v] = some (d, p)) : ∃ l : List Int, ArgI w v l ∧ RowD d l := by
  rcases open_ints Tryd.underlying39 Tryd.underlying3 (by kernel_rfl) hf with ⟨hcs, _⟩ | ⟨a, len, cap, zs, hcs, _, hl, _, hz, hx, hcell, _⟩
  · obtain rfl : v = .slice none 0 0 := by simpa using hcs
    exact ⟨[], ⟨none, 0, rfl, Or.inl rfl⟩, Or.inl rfl⟩
  · obtain rfl : v = .slice (some a) len cap := by simpa using hcs
    simp only [if_true] at hz
    have ht : (zs.take len).length = len := by rw [List.length_take]; omega
    refine ⟨zs.take len, ⟨some a, cap, by rw [ht], ?_⟩, Or.inr ⟨_, _, (Prod.mk.inj hx).1, by simp [lits]⟩⟩
    rcases Nat.eq_zero_or_pos len with h0 | h0
    · subst h0; exact Or.inl (by simp)
    · obtain ⟨b, off, spot⟩ := a
      have hc0 := hcell 0 (by omega)
      have hs : spot = none := by
        cases spot with
        | none => rfl
        | some s =>
          exfalso
          simp only [Addr.add, World.cell?] at hc0
          split at hc0 <;> simp at hc0
      subst hs
      refine Or.inr ⟨b, off, rfl, World.block_lt_of_cell? _ _ hc0, fun i hi => ?_⟩
      rw [ht] at hi
      have hi2 : i < zs.length := by omega
      have := hcell i hi2
      rw [Addr.add_lit] at this
      rw [getElem!_pos (zs.take len) i (by omega), List.getElem_take, this, List.getD_eq_getElem?_getD, List.getElem?_eq_getElem hi2]
      rfl
set_option maxRecDepth 100000 in
set_option maxHeartbeats 1000000 in
theorem open_rows {r : Reach} {b0 : Nat} {v : Value} {d : DataW H} {p : List MemPlace} (hv : Value.okWide Tryd.prog w r b0 22 v) (h : DataW.Trod enc Tryd.prog w 0 (fun _ => true) true 22 v d p) :
    ∃ M : List (List Int), ArgR w v M ∧ RowsD d M := by
  obtain ⟨q, n0, c, rfl⟩ := okWide_slice Tryd.underlying22 hv
  obtain ⟨fuel, hf⟩ := h
  rcases open_slice1 Tryd.underlying22 (by kernel_rfl) hf with ⟨hcs, _⟩ | ⟨a, len, cap, m, n, V, D, Pl, hcs, _, hl, hm, hmm, hx, hcell⟩
  · simp [Value.cells] at hcs
    obtain ⟨rfl, rfl, rfl⟩ := hcs
    exact ⟨[], ⟨none, 0, rfl, Or.inl rfl⟩, Or.inl rfl⟩
  · simp [Value.cells] at hcs
    obtain ⟨rfl, rfl, rfl⟩ := hcs
    simp only [if_true] at hmm
    subst hmm
    have each : ∀ i, i < m → ∃ l : List Int, ArgI w (V i) l ∧ RowD (D i) l := fun i hi => row_of (hcell i hi).2
    obtain ⟨f, hf2⟩ := choose_lt each
    have hlen : ((List.range n0).map f).length = n0 := by simp
    have hget : ∀ i, i < n0 → ((List.range n0).map f)[i]! = f i := fun i hi => by rw [getElem!_pos _ i (by simpa using hi)]; simp
    refine ⟨(List.range n0).map f, ⟨some a, m, by rw [hlen], ?_⟩, Or.inr ⟨_, _, (Prod.mk.inj hx).1, by simp, fun i hi => ?_⟩⟩
    · rcases Nat.eq_zero_or_pos n0 with h0 | h0
      · subst h0; exact Or.inl rfl
      · obtain ⟨b, off, spot⟩ := a
        have hc0 := (hcell 0 (by omega)).1
        have hs : spot = none := by
          cases spot with
          | none => rfl
          | some s =>
            exfalso
            simp only [Addr.add, World.cell?] at hc0
            split at hc0 <;> simp at hc0
        subst hs
        refine Or.inr ⟨b, off, rfl, World.block_lt_of_cell? _ _ hc0, fun i hi => ?_⟩
        rw [hlen] at hi
        have := (hcell i (by omega)).1
        rw [Addr.add_lit] at this
        rw [hget i hi]
        exact ⟨V i, this, (hf2 i (by omega)).1⟩
    · rw [hlen] at hi
      rw [hget i hi]
      exact ⟨D i, by simp [hi], (hf2 i (by omega)).2⟩
theorem weights_all {e : TypeId} : ∀ {es : List (DataW H)} {i : Nat} {d : DataW H}, es[i]? = some d → ∀ n ∈ d.weights Tryd.prog e, n ∈ DataW.weightsAll Tryd.prog e es
  | [], _, _, h, _, _ => by simp at h
  | _ :: _, 0, _, h, n, hn => by
    simp only [List.getElem?_cons_zero, Option.some.injEq] at h
    subst h
    simp only [DataW.weightsAll, List.mem_append]
    exact Or.inl hn
  | _ :: _, i + 1, _, h, n, hn => by
    simp only [List.getElem?_cons_succ] at h
    simp only [DataW.weightsAll, List.mem_append]
    exact Or.inr (weights_all h n hn)
/-- How long the rows are, and how many. -/
theorem sized_rows {ts : List TypeId} {ds : List (DataW H)} (h : (DataW.weightsEach Tryd.prog ts ds).all (· ≤ reachBytes) = true) {j : Nat} {d : DataW H} {M : List (List Int)} (ht : ts[j]? = some 22) (hd : ds[j]? = some d) (hr : RowsD d M) :
    M.length * 24 ≤ reachBytes ∧ ∀ r ∈ M, r.length * 8 ≤ reachBytes := by
  rcases hr with rfl | ⟨es, sp, rfl, he, hr⟩
  · simp
  have key : ∀ n ∈ (DataW.slice es sp : DataW H).weights Tryd.prog 22, n ≤ reachBytes := fun n hn => by
    have := List.all_eq_true.1 h _ (DataW.weights_mem_each ht hd n hn)
    simpa using this
  have hw : (DataW.slice es sp : DataW H).weights Tryd.prog 22 = (es.length + sp.length) * 24 :: (DataW.weightsAll Tryd.prog 39 es ++ DataW.weightsAll Tryd.prog 39 sp) := by
    simp only [DataW.weights, Tryd.underlying22, bytesRow]
  rw [hw] at key
  refine ⟨?_, fun r hm => ?_⟩
  · have := key _ (List.mem_cons_self ..)
    omega
  · obtain ⟨i, hi, e⟩ := List.getElem_of_mem hm
    obtain ⟨y, h1, h2⟩ := hr i hi
    rw [getElem!_pos M i hi, e] at h2
    rcases h2 with rfl | ⟨es', sp', rfl, h3⟩
    · simp
    · have hw2 : (es'.length + sp'.length) * 8 ∈ (DataW.slice es' sp' : DataW H).weights Tryd.prog 39 := by
        simp only [DataW.weights, Tryd.underlying39, bytesInt]
        exact List.mem_cons_self ..
      have := key _ (List.mem_cons_of_mem _ (List.mem_append_left _ (weights_all h1 _ hw2)))
      omega
end Go.Proofs.YtobfidlfgdlilaaDoor
