/-
  Arguments that are a message (a struct with a list of entries) or a list of bytes: opened to what they are.
-/
import Derived.Test.YtlgkjbkbdmneaaaDoorEntList
import Derived.Test.YtlgkjbkbdmneaaaDoorNetArg
import Derived.Deep.SlicePairs
import Derived.SizedLaws
import Derived.ChangeSlices
import Derived.Carry
namespace Go.Proofs.YtlgkjbkbdmneaaaDoor
open Go.ChangeShapes Go.WideShapes Go.ChangeAt Go.RowKit Go.Joins Go.Deep

theorem laidOut : laidOutB Tryd.prog = true := by kernel_rfl
theorem bytesEnt : Tryd.prog.bytesOf 49 = 40 := by kernel_rfl
theorem bytesByte : Tryd.prog.bytesOf 5 = 1 := by kernel_rfl
theorem cellsEnt : Tryd.prog.cellsOf 49 = 5 := by kernel_rfl
theorem cellsMsg : Tryd.prog.cellsOf 24 = 2 := by kernel_rfl
theorem cellsU32 : Tryd.prog.cellsOf 45 = 1 := by kernel_rfl
theorem cellsInt : Tryd.prog.cellsOf 3 = 1 := by kernel_rfl
variable {H : Type} {enc : TypeId × Value → H} {w : World}

theorem five_of {α : Type} : ∀ {l : List α}, l.length = 5 → ∃ a b c d e, l = [a, b, c, d, e]
  | [a, b, c, d, e], _ => ⟨a, b, c, d, e, rfl⟩

set_option maxRecDepth 100000 in
set_option maxHeartbeats 1000000 in
/-- One entry, of its five cells. -/
theorem open_ent {n : Nat} {cs : List Value} {x : DataW H × List MemPlace} (h : DataW.trod enc Tryd.prog w 0 (fun _ => true) true n 49 cs = some x) :
    ∃ e : En, cs = [.int .u32 (e.a : Int), .int .i64 e.n, .int .i64 e.t, .int .u32 (e.h : Int), .int .i64 e.m] ∧ e.Fits := by
  obtain ⟨y0, y1, y2, y3, k, _, hl, h0, h1, h2, h3⟩ := trod_struct4 Tryd.underlying49 h
  rw [cellsEnt] at hl
  obtain ⟨v0, v1, v2, v3, v4, rfl⟩ := five_of hl
  simp only [cellsNet, cellsU32, cellsInt, List.drop_zero, List.drop_succ_cons, List.take_succ_cons, List.take_zero] at h0 h1 h2 h3
  obtain ⟨z0, z1, k2, _, _, g0, g1⟩ := trod_struct2 Tryd.underlying47 h0
  simp only [cellsU32, cellsInt, List.drop_zero, List.drop_succ_cons, List.take_succ_cons, List.take_zero] at g0 g1
  obtain ⟨q0, e0, _, w0⟩ := DataW.trod_int Tryd.underlying45 g0
  obtain ⟨q1, e1, _, _⟩ := DataW.trod_int Tryd.underlying3 g1
  obtain ⟨q2, e2, _, _⟩ := DataW.trod_int Tryd.underlying3 h1
  obtain ⟨q3, e3, _, w3⟩ := DataW.trod_int Tryd.underlying45 h2
  obtain ⟨q4, e4, _, _⟩ := DataW.trod_int Tryd.underlying3 h3
  simp at e0 e1 e2 e3 e4
  subst e0 e1 e2 e3 e4
  have b0 := bounds_u32 w0
  have b3 := bounds_u32 w3
  obtain ⟨a, rfl⟩ := Int.eq_ofNat_of_zero_le b0.1
  obtain ⟨hh, rfl⟩ := Int.eq_ofNat_of_zero_le b3.1
  exact ⟨⟨a, q1, q2, hh, q4⟩, rfl, by simp only [En.Fits]; omega⟩

set_option maxRecDepth 100000 in
set_option maxHeartbeats 1000000 in
theorem open_entsC {n : Nat} {v : Value} {x : DataW H × List MemPlace} (h : DataW.trod enc Tryd.prog w 0 (fun _ => true) true n 22 [v] = some x) :
    ∃ l : List En, ArgE w v l ∧ (∀ e ∈ l, e.Fits) ∧ (l = [] ∨ ∃ es sp, x.1 = .slice es sp ∧ es.length = l.length) := by
  rcases open_slice Tryd.underlying22 h with ⟨hcs, _⟩ | ⟨a, len, cap, m, k, D, Pl, hcs, _, hl, hm, hmm, hx, hcell⟩
  · simp at hcs
    subst hcs
    exact ⟨[], ArgE.nil w, by simp, Or.inl rfl⟩
  · simp at hcs
    subst hcs
    simp only [if_true] at hmm
    subst hmm
    have each : ∀ i, i < m → ∃ e : En, e.Fits ∧ ∀ j u, ([.int .u32 (e.a : Int), .int .i64 e.n, .int .i64 e.t, .int .u32 (e.h : Int), .int .i64 e.m] : List Value)[j]? = some u → w.cell? (a.add (i * 5 + j)) = some u := by
      intro i hi
      obtain ⟨cs, h1, h2⟩ := hcell i hi
      rw [cellsEnt] at h1
      obtain ⟨_, hlen, hc⟩ := World.cells?_some h1
      obtain ⟨e, rfl, hf⟩ := open_ent h2
      refine ⟨e, hf, fun j u hu => ?_⟩
      have hj : j < 5 := by have := (List.getElem?_eq_some_iff.1 hu).1; simpa using this
      have := hc j hj
      rw [add_add] at this
      rw [this, ← hu]
    obtain ⟨f, hf2⟩ := choose_lt each
    have hlen : ((List.range len).map f).length = len := by simp
    have hget : ∀ i, i < len → ((List.range len).map f)[i]! = f i := fun i hi => by rw [getElem!_pos _ i (by simpa using hi)]; simp
    refine ⟨(List.range len).map f, ⟨some a, m, by rw [hlen], by rw [hlen]; exact hl, ?_⟩, ?_, Or.inr ⟨_, _, by rw [hx], by simp⟩⟩
    · rcases Nat.eq_zero_or_pos len with h0 | h0
      · subst h0; exact Or.inl rfl
      · obtain ⟨b, off, spot⟩ := a
        have hc0 := (hf2 0 (by omega)).2 0 _ rfl
        have hs : spot = none := by
          cases spot with
          | none => rfl
          | some s =>
            exfalso
            simp only [Addr.add, World.cell?] at hc0
            split at hc0 <;> simp at hc0
        subst hs
        refine Or.inr ⟨b, off, rfl, World.block_lt_of_cell? _ _ hc0, fun i hi => ?_⟩
        rw [hlen] at hi
        rw [hget i hi]
        have key := (hf2 i (by omega)).2
        have c0 := key 0 _ rfl
        have c1 := key 1 _ rfl
        have c2 := key 2 _ rfl
        have c3 := key 3 _ rfl
        have c4 := key 4 _ rfl
        rw [Addr.add_lit] at c0 c1 c2 c3 c4
        exact ⟨c0, by rw [Nat.add_assoc]; exact c1, by rw [Nat.add_assoc]; exact c2, by rw [Nat.add_assoc]; exact c3, by rw [Nat.add_assoc]; exact c4⟩
    · intro e he
      rw [List.mem_map] at he
      obtain ⟨i, hi, rfl⟩ := he
      exact (hf2 i (by have := List.mem_range.1 hi; omega)).1

set_option maxRecDepth 100000 in
set_option maxHeartbeats 1000000 in
/-- A message. -/
theorem open_msg {r : Reach} {b0 : Nat} {v : Value} {d : DataW H} {p : List MemPlace} (hv : Value.okWide Tryd.prog w r b0 24 v) (h : DataW.Trod enc Tryd.prog w 0 (fun _ => true) true 24 v d p) :
    ∃ (ask : Bool) (ve : Value) (l : List En), v = .agg #[.bool ask, ve] ∧ ArgE w ve l ∧ (∀ e ∈ l, e.Fits) ∧ (l = [] ∨ ∃ d0 es sp, d = .agg [d0, .slice es sp] ∧ es.length = l.length) := by
  obtain ⟨c0, c1, y0, y1, m, rfl, rfl, rfl, hy0, hy1⟩ := open_agg2 Tryd.underlying24 (by kernel_rfl) cellsMsg hv h
  obtain ⟨l, hl, hf, hd⟩ := open_entsC hy1
  obtain ⟨ask, e0, _⟩ := DataW.trod_bool Tryd.underlying4 hy0
  simp at e0
  subst e0
  refine ⟨ask, c1, l, rfl, hl, hf, ?_⟩
  rcases hd with hd | ⟨es, sp, hd, hn⟩
  · exact Or.inl hd
  · exact Or.inr ⟨_, es, sp, by rw [hd], hn⟩
theorem sized_msg {ts : List TypeId} {ds : List (DataW H)} (h : (DataW.weightsEach Tryd.prog ts ds).all (· ≤ reachBytes) = true) {j : Nat} {d0 : DataW H} {es sp : List (DataW H)} (ht : ts[j]? = some 24) (hd : ds[j]? = some (.agg [d0, .slice es sp])) :
    (es.length + sp.length) * 40 ≤ reachBytes := by
  have := List.all_eq_true.1 h _ (DataW.weights_mem_each ht hd ((es.length + sp.length) * Tryd.prog.bytesOf 49) (by simp [DataW.weights, DataW.weightsEach, Tryd.underlying24, Tryd.underlying22]))
  rw [bytesEnt] at this
  simpa using this

set_option maxRecDepth 100000 in
set_option maxHeartbeats 1000000 in
/-- A list of bytes. -/
theorem open_bytes {r : Reach} {b0 : Nat} {v : Value} {d : DataW H} {p : List MemPlace} (hv : Value.okWide Tryd.prog w r b0 25 v) (h : DataW.Trod enc Tryd.prog w 0 (fun _ => true) true 25 v d p) :
    ∃ l : List Nat, ArgB w v l ∧ Byt l ∧ (l = [] ∨ ∃ es sp, d = .slice es sp ∧ es.length = l.length) := by
  obtain ⟨q, n0, c, rfl⟩ := okWide_slice Tryd.underlying25 hv
  obtain ⟨fuel, hf⟩ := h
  rcases open_ints Tryd.underlying25 Tryd.underlying5 (by kernel_rfl) hf with ⟨hcs, _⟩ | ⟨a, len, cap, zs, hcs, _, hl, _, hz, hx, hcell, hwf⟩
  · simp [Value.cells] at hcs
    obtain ⟨rfl, rfl, rfl⟩ := hcs
    exact ⟨[], ⟨none, 0, rfl, Nat.le_refl _, Or.inl rfl⟩, fun x hx => by simp at hx, Or.inl rfl⟩
  · simp [Value.cells] at hcs
    obtain ⟨rfl, rfl, rfl⟩ := hcs
    simp only [if_true] at hz
    have hn : ∀ i, i < zs.length → ∃ k : Nat, zs.getD i 0 = (k : Int) ∧ k < 256 := fun i hi => by
      have e : zs.getD i 0 = zs[i] := by rw [List.getD_eq_getElem?_getD, List.getElem?_eq_getElem hi]; rfl
      have := bounds_u8 (hwf zs[i] (List.getElem_mem hi))
      exact ⟨zs[i].toNat, by rw [e]; omega, by omega⟩
    obtain ⟨f, hf2⟩ := choose_lt hn
    have hlen : ((List.range n0).map f).length = n0 := by simp
    have hget : ∀ i, i < n0 → ((List.range n0).map f)[i]! = f i := fun i hi => by rw [getElem!_pos _ i (by simpa using hi)]; simp
    refine ⟨(List.range n0).map f, ⟨some a, c, by rw [hlen], by rw [hlen]; exact hl, ?_⟩, ?_, Or.inr ⟨_, _, (Prod.mk.inj hx).1, by simp [lits]; omega⟩⟩
    · rcases Nat.eq_zero_or_pos n0 with h0 | h0
      · subst h0; exact Or.inl rfl
      · obtain ⟨b, off, spot⟩ := a
        have hc0 := hcell 0 (by omega)
        have hs : spot = none := by
          cases spot with
          | none => rfl
          | some s =>
            exfalso
            simp only [Addr.add, World.cell?] at hc0
            split at hc0 <;> simp at hc0
        subst hs
        refine Or.inr ⟨b, off, rfl, World.block_lt_of_cell? _ _ hc0, fun i hi => ?_⟩
        rw [hlen] at hi
        have := hcell i (by omega)
        rw [Addr.add_lit, (hf2 i (by omega)).1] at this
        rw [hget i hi]
        exact this
    · intro x hx
      rw [List.mem_map] at hx
      obtain ⟨i, hi, rfl⟩ := hx
      exact (hf2 i (by have := List.mem_range.1 hi; omega)).2
end Go.Proofs.YtlgkjbkbdmneaaaDoor
