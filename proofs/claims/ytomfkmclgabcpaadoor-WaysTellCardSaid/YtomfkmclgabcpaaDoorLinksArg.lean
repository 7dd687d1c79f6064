/-
  An argument that is a slice of links: opened to the list that it is.
-/
import Derived.Test.YtomfkmclgabcpaaDoorLinkList
import Derived.Deep.SlicePairs
import Derived.SizedLaws
import Derived.Carry
import Derived.Lib.SmallJoins
import Derived.ProofKit
import Derived.OpenShut
namespace Go.Proofs.YtomfkmclgabcpaaDoor
open Go.ChangeShapes Go.WideShapes Go.ChangeAt Go.RowKit Go.Deep

theorem laidOut : laidOutB Tryd.prog = true := by kernel_rfl
theorem bytesLink : Tryd.prog.bytesOf 48 = 24 := by kernel_rfl
theorem cellsLink : Tryd.prog.cellsOf 48 = 3 := by kernel_rfl
theorem cellsInt : Tryd.prog.cellsOf 3 = 1 := by kernel_rfl
variable {H : Type} {enc : TypeId × Value → H} {w : World}
set_option maxRecDepth 100000 in
set_option maxHeartbeats 1000000 in
theorem open_links {r : Reach} {b0 : Nat} {v : Value} {d : DataW H} {p : List MemPlace} (hv : Value.okWide Tryd.prog w r b0 22 v) (h : DataW.Trod enc Tryd.prog w 0 (fun _ => true) true 22 v d p) :
    ∃ l : List Lk, ArgK w v l ∧ (l = [] ∨ ∃ es sp, d = .slice es sp ∧ es.length = l.length) := by
  obtain ⟨q, n0, c, rfl⟩ := okWide_slice Tryd.underlying22 hv
  obtain ⟨fuel, hf⟩ := h
  rcases open_slice Tryd.underlying22 hf with ⟨hcs, _⟩ | ⟨a, len, cap, m, n, D, Pl, hcs, _, hl, hm, hmm, hx, hcell⟩
  · simp [Value.cells] at hcs
    obtain ⟨rfl, rfl, rfl⟩ := hcs
    exact ⟨[], ⟨none, 0, rfl, Or.inl rfl⟩, Or.inl rfl⟩
  · simp [Value.cells] at hcs
    obtain ⟨rfl, rfl, rfl⟩ := hcs
    simp only [if_true] at hmm
    subst hmm
    have each : ∀ i, i < m → ∃ x : Lk, w.cell? (a.add (i * 3)) = some (Lk.v0 x) ∧ w.cell? (a.add (i * 3 + 1)) = some (Lk.v1 x) ∧ w.cell? (a.add (i * 3 + 2)) = some (Lk.v2 x) := by
      intro i hi
      obtain ⟨cs', h1, h2⟩ := hcell i hi
      rw [cellsLink] at h1
      obtain ⟨_, hlen, hcell'⟩ := World.cells?_some h1
      obtain ⟨xs, k, _, _, _, hxl, hf⟩ := DataW.trod_struct Tryd.underlying48 h2
      match xs, hxl, cs', hlen with
      | [y0, y1, y2], _, [v0, v1, v2], _ =>
        have g0 := hf 0 _ rfl
        have g1 := hf 1 _ rfl
        have g2 := hf 2 _ rfl
        simp [cellsInt] at g0 g1 g2
        have e0 := hcell' 0 (by omega)
        have e1 := hcell' 1 (by omega)
        have e2 := hcell' 2 (by omega)
        rw [add_add] at e0 e1 e2
        obtain ⟨z0, t0, _, _⟩ := DataW.trod_int Tryd.underlying3 g0
        obtain ⟨z1, t1, _, _⟩ := DataW.trod_int Tryd.underlying3 g1
        obtain ⟨z2, t2, _, _⟩ := DataW.trod_int Tryd.underlying3 g2
        simp at t0 t1 t2
        subst t0 t1 t2
        exact ⟨(z0, z1, z2), by simpa [Lk.v0] using e0, by simpa [Lk.v1] using e1, by simpa [Lk.v2] using e2⟩
    obtain ⟨f, hf2⟩ := choose_lt each
    have hlen : ((List.range n0).map f).length = n0 := by simp
    have hget : ∀ i, i < n0 → ((List.range n0).map f)[i]! = f i := fun i hi => by rw [getElem!_pos _ i (by simpa using hi)]; simp
    refine ⟨(List.range n0).map f, ⟨some a, m, by rw [hlen], ?_⟩, Or.inr ⟨_, _, (Prod.mk.inj hx).1, by simp⟩⟩
    rcases Nat.eq_zero_or_pos n0 with h0 | h0
    · subst h0; exact Or.inl rfl
    · obtain ⟨b, off, spot⟩ := a
      have hc0 := (hf2 0 (by omega)).1
      have hs : spot = none := by
        cases spot with
        | none => rfl
        | some s =>
          exfalso
          simp only [Addr.add, World.cell?] at hc0
          split at hc0 <;> simp at hc0
      subst hs
      refine Or.inr ⟨b, off, rfl, World.block_lt_of_cell? _ _ hc0, ⟨fun i hi => ?_, fun i hi => ?_, fun i hi => ?_⟩⟩
      · rw [hlen] at hi
        have := (hf2 i (by omega)).1
        rw [Addr.add_lit] at this
        rw [hget i hi]; exact this
      · rw [hlen] at hi
        have := (hf2 i (by omega)).2.1
        rw [Addr.add_lit, ← Nat.add_assoc] at this
        rw [hget i hi]; exact this
      · rw [hlen] at hi
        have := (hf2 i (by omega)).2.2
        rw [Addr.add_lit, ← Nat.add_assoc] at this
        rw [hget i hi]; exact this
end Go.Proofs.YtomfkmclgabcpaaDoor
