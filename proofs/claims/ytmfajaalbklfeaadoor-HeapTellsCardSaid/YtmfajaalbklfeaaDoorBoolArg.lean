/-
  LISTS OF BOOLS: an argument that is read; a row that a call has laid in a block of its own.
-/
import Derived.Test.YtmfajaalbklfeaaDoorVec
import Derived.Test.YtmfajaalbklfeaaDoorHeapMem
import Derived.ChangeSlices
import Derived.Deep.Grids
import Derived.ProofKit
import Derived.OpenShut
import Derived.Carry
namespace Go.Proofs.YtmfajaalbklfeaaDoor
open Go.ChangeShapes Go.WideShapes Go.ChangeAt Go.RowKit Go.Joins Go.Deep

/-- A list of bools that lies at a place, to be read. -/
def SeenBo (w : World) (b off : Nat) (l : List Bool) : Prop := ∀ i, i < l.length → w.cell? ⟨b, off + i, none⟩ = some (.bool l[i]!)
/-- A value that is such a list. -/
def ArgBo (w : World) (v : Value) (l : List Bool) : Prop := ∃ p c, v = .slice p l.length c ∧ (l = [] ∨ ∃ b off, p = some ⟨b, off, none⟩ ∧ b < w.heap.size ∧ SeenBo w b off l)

variable {H : Type} {enc : TypeId × Value → H} {w : World}
set_option maxRecDepth 100000 in
set_option maxHeartbeats 1000000 in
theorem openBo {r : Reach} {b0 : Nat} {v : Value} {d : DataW H} {p : List MemPlace} (hv : Value.okWide Tryd.prog w r b0 23 v) (h : DataW.Trod enc Tryd.prog w 0 (fun _ => true) true 23 v d p) :
    ∃ l : List Bool, ArgBo w v l := by
  obtain ⟨q, n0, c, rfl⟩ := okWide_slice Tryd.underlying23 hv
  obtain ⟨fuel, hf⟩ := h
  rcases open_bools Tryd.underlying23 Tryd.underlying4 (by kernel_rfl) hf with ⟨hcs, _⟩ | ⟨a, len, cap, B, hcs, _, hl, _, _, hcell⟩
  · simp [Value.cells] at hcs
    obtain ⟨rfl, rfl, rfl⟩ := hcs
    exact ⟨[], none, 0, rfl, Or.inl rfl⟩
  · simp [Value.cells] at hcs
    obtain ⟨rfl, rfl, rfl⟩ := hcs
    have hlen : ((List.range n0).map B).length = n0 := by simp
    refine ⟨(List.range n0).map B, some a, c, by rw [hlen], ?_⟩
    rcases Nat.eq_zero_or_pos n0 with h0 | h0
    · subst h0; exact Or.inl rfl
    · obtain ⟨b, off, spot⟩ := a
      have hc0 := hcell 0 (by omega)
      have hs : spot = none := by
        cases spot with
        | none => rfl
        | some s =>
          exfalso
          simp only [Addr.add, World.cell?] at hc0
          split at hc0 <;> simp at hc0
      subst hs
      refine Or.inr ⟨b, off, rfl, World.block_lt_of_cell? _ _ hc0, fun i hi => ?_⟩
      rw [hlen] at hi
      have := hcell i (by omega)
      rw [Addr.add_lit] at this
      rw [this, getElem!_pos _ i (by simpa using hi)]
      simp

theorem info_bool : (Tryd.prog.info? 4).map (fun i => (i.zero, i.size, i.bytes)) = some (some (.bool false), 1, 1) := by kernel_rfl
/-- Block g holds the n bools of d. -/
structure VecB (w : World) (g n : Nat) (d : Nat → Bool) : Prop where
  lt : g < w.heap.size
  c : ∀ i, i < n → w.cell? ⟨g, i, none⟩ = some (.bool (d i))
  f : ∀ i, w.frozen? ⟨g, i, none⟩ = false
theorem VecB.stay {w w1 : World} {S : Nat → Prop} {g n : Nat} {d : Nat → Bool} (h : VecB w g n d) (hk : Keep S w w1) (hs : ¬ S g) : VecB w1 g n d := by
  have hb := hk.block g h.lt hs
  exact ⟨Nat.lt_of_lt_of_le h.lt hk.size, fun i hi => (World.cell?_of_block (w := w) (a := ⟨g, i, none⟩) hb).trans (h.c i hi), fun i => (World.frozen?_of_block (w := w) (a := ⟨g, i, none⟩) hb).trans (h.f i)⟩
theorem VecB.keep {w w1 : World} {g n : Nat} {d : Nat → Bool} (h : VecB w g n d) (hb : Below w.heap.size w w1) : VecB w1 g n d := h.stay (S := fun _ => False) (Keep.of hb) fun e => e
theorem VecB.past {w : World} {g n : Nat} {d : Nat → Bool} (h : VecB w g n d) (c o : Nat) (hc : g ≠ c) (v : Value) : VecB (w.setCell ⟨c, o, none⟩ v) g n d :=
  h.stay (Keep.setCell (fun b => b = c) w c o v rfl) hc
theorem VecB.set {w : World} {g n : Nat} {d : Nat → Bool} (h : VecB w g n d) (p : Nat) (x : Bool) : VecB (w.setCell ⟨g, p, none⟩ (.bool x)) g n (fun i => if i = p then x else d i) := by
  refine ⟨by simpa [World.setCell] using h.lt, fun i hi => ?_, fun i => by rw [World.frozen?_setCell]; exact h.f i⟩
  rw [set_if w g i p _ _ (h.c i hi)]
  by_cases e : i = p
  · rw [if_pos e, if_pos e]
  · rw [if_neg e, if_neg e]
theorem VecB.made (w : World) (n : Nat) (T : TypeId) : VecB (w.alloc (.cells (madeCells #[.bool false] n) T)) w.heap.size n (fun _ => false) :=
  ⟨by simp, fun i hi => made_cell w _ n i T hi, fun i => by rw [frozen?_alloc_cells]; exact frozen_past _ _ (Nat.le_refl _)⟩
theorem VecB.congr {w : World} {g n : Nat} {d d' : Nat → Bool} (h : VecB w g n d) (e : ∀ i, i < n → d i = d' i) : VecB w g n d' :=
  ⟨h.lt, fun i hi => by rw [← e i hi]; exact h.c i hi, h.f⟩
end Go.Proofs.YtmfajaalbklfeaaDoor
