/-
  A ROW THAT THE CALL OWNS, written into: what stays, and that its cells are still there.
-/
import Derived.Test.YtlgkjbkbdmneaaaDoorEntList
import Derived.Test.YtlgkjbkbdmneaaaDoorBoxSet
namespace Go.Proofs.YtlgkjbkbdmneaaaDoor
open Go.RowKit

/-- Nothing but v's own block was written into. -/
structure Wrote (w0 w : World) (v : Value) : Prop where
  os : w.os = w0.os
  tape : w.tape = w0.tape
  output : w.output = w0.output
  size : w.heap.size = w0.heap.size
  block : ∀ j, v.ownBlock ≠ some j → w.heap[j]? = w0.heap[j]?
theorem Wrote.refl (w : World) (v : Value) : Wrote w w v := ⟨rfl, rfl, rfl, rfl, fun _ _ => rfl⟩
theorem Wrote.set {w0 w : World} {v : Value} {g : Nat} (h : Wrote w0 w v) (hv : v.ownBlock = some g) (i : Nat) (u : Value) : Wrote w0 (w.setCell ⟨g, i, none⟩ u) v :=
  ⟨h.os, h.tape, h.output, by rw [setCell_size]; exact h.size, fun j hj => (Below.heap_setCell w ⟨g, i, none⟩ u j (fun e => hj (by rw [hv, e]))).trans (h.block j hj)⟩
theorem Wrote.below {w0 w : World} {v : Value} {n : Nat} (h : Wrote w0 w v) (hv : ∀ j, v.ownBlock = some j → n ≤ j) : Below n w0 w :=
  ⟨h.os, h.tape, h.output, Nat.le_of_eq h.size.symm, fun k hk => h.block k (fun e => by have := hv k e; omega)⟩
theorem Box.wrote {w0 w : World} {v x y : Value} {b : Nat} (h : Box w0 b x y) (k : Wrote w0 w v) (hn : v.ownBlock ≠ some b) : Box w b x y := h.ofBlock (k.block b hn) (Nat.le_of_eq k.size.symm)
/-- The cells of v's own block are there, to be written into. -/
def Live (w : World) (v : Value) (n : Nat) : Prop := ∀ g, v.ownBlock = some g → (∀ i, i < n → ∃ u, w.cell? ⟨g, i, none⟩ = some u) ∧ ∀ o, w.frozen? ⟨g, o, none⟩ = false
theorem Live.set {w : World} {v : Value} {n : Nat} (h : Live w v n) (a : Addr) (u : Value) : Live (w.setCell a u) v n := fun g hg => by
  obtain ⟨h1, h2⟩ := h g hg
  refine ⟨fun i hi => ?_, fun o => by rw [World.frozen?_setCell]; exact h2 o⟩
  obtain ⟨x, hx⟩ := h1 i hi
  exact cell?_setCell_some hx
theorem Live.ofBlock {w w1 : World} {v : Value} {n : Nat} (h : Live w v n) (hb : ∀ g, v.ownBlock = some g → w1.heap[g]? = w.heap[g]?) : Live w1 v n := fun g hg => by
  obtain ⟨h1, h2⟩ := h g hg
  refine ⟨fun i hi => ?_, fun o => (World.frozen?_of_block (w := w) (a := ⟨g, o, none⟩) (hb g hg)).trans (h2 o)⟩
  obtain ⟨x, hx⟩ := h1 i hi
  exact ⟨x, (World.cell?_of_block (w := w) (a := ⟨g, i, none⟩) (hb g hg)).trans hx⟩
theorem Live.of {w : World} {base n s : Nat} {T : TypeId} {v : Value} {xs : List Value} (h : w.ownsRow base T s v n xs) : Live w v (n * s) := fun g hg => by
  obtain ⟨hl, ⟨hv, hn⟩ | ⟨g', cap, cur, hv, hb, hg', hcap, hm, hsz, hc⟩⟩ := h
  · rw [hv] at hg; simp [Value.ownBlock] at hg
  · rw [hv] at hg
    simp [Value.ownBlock] at hg
    subst hg
    refine ⟨fun i hi => ?_, fun o => by simp [World.frozen?, hg']⟩
    have hi2 : i < cur.size := by
      have : n * s ≤ cap * s := Nat.mul_le_mul_right _ hcap
      omega
    exact ⟨cur[i], by simp [World.cell?, hg', hi2]⟩
/-- The value of a row that the call owns: none, or one with a place at its block's beginning. -/
theorem rowForm {w : World} {base n s : Nat} {T : TypeId} {v : Value} {xs : List Value} (h : w.ownsRow base T s v n xs) : (n = 0 ∧ v = .slice none 0 0) ∨ ∃ g cap, v = .slice (some ⟨g, 0, none⟩) n cap ∧ base ≤ g ∧ g < w.heap.size := by
  obtain ⟨_, ⟨hv, hn⟩ | ⟨g, cap, cur, hv, hb, hg, _⟩⟩ := h
  · exact Or.inl ⟨hn, hv⟩
  · exact Or.inr ⟨g, cap, hv, hb, (Array.getElem?_eq_some_iff.1 hg).1⟩
end Go.Proofs.YtlgkjbkbdmneaaaDoor
