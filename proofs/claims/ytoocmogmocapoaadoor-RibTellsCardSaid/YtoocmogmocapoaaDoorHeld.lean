/-
  A LIST THAT IS WHOLE, in a block of its own, or none: read and written into.
-/
import Derived.Test.YtoocmogmocapoaaDoorCells
namespace Go.Proofs.YtoocmogmocapoaaDoor
open Go.RowKit
variable {E : Type} [Inhabited E] [Cel E]

/-- A list in a block of its own, from base on. -/
def LHeld (w : World) (base : Nat) (v : Value) (l : List E) : Prop :=
  (v = .slice none 0 0 ∧ l = []) ∨ ∃ g c, v = .slice (some ⟨g, 0, none⟩) l.length c ∧ base ≤ g ∧ g < w.heap.size ∧ l.length ≤ c ∧ LSeen w g 0 l ∧ ∀ o, w.frozen? ⟨g, o, none⟩ = false
section
variable {w w1 : World} {base : Nat} {v : Value} {l : List E}
theorem LOwn.held {T : TypeId} (h : LOwn T w base v l) : LHeld w base v l := h.form
theorem LHeld.arg (h : LHeld w base v l) : LArg w v l := by
  rcases h with ⟨rfl, rfl⟩ | ⟨g, c, rfl, h1, h2, h3, h4, h5⟩
  · exact LArg.nil _
  · exact ⟨_, c, rfl, h3, Or.inr ⟨g, 0, rfl, h2, h4⟩⟩
theorem LHeld.ofBlock (h : LHeld w base v l) (hs : w.heap.size ≤ w1.heap.size) (hb : ∀ g, v.ownBlock = some g → g < w.heap.size → w1.heap[g]? = w.heap[g]?) : LHeld w1 base v l := by
  rcases h with ⟨rfl, rfl⟩ | ⟨g, c, rfl, h1, h2, h3, h4, h5⟩
  · exact Or.inl ⟨rfl, rfl⟩
  · have e := hb g rfl h2
    exact Or.inr ⟨g, c, rfl, h1, Nat.lt_of_lt_of_le h2 hs, h3, h4.ofBlock e, fun o => (World.frozen?_of_block (w := w) (a := ⟨g, o, none⟩) e).trans (h5 o)⟩
theorem LHeld.below (h : LHeld w base v l) (hb : Below w.heap.size w w1) : LHeld w1 base v l := h.ofBlock hb.size fun g _ hg => hb.block g hg
theorem LHeld.keep {S : Nat → Prop} (h : LHeld w base v l) (hk : Keep S w w1) (hs : ∀ g, v.ownBlock = some g → ¬ S g) : LHeld w1 base v l := h.ofBlock hk.size fun g hg hl => hk.block g hl (hs g hg)
theorem LHeld.lt (h : LHeld w base v l) : ∀ g, v.ownBlock = some g → base ≤ g ∧ g < w.heap.size := by
  intro g hg
  rcases h with ⟨rfl, rfl⟩ | ⟨g', c, rfl, h1, h2, _⟩
  · cases hg
  · cases hg; exact ⟨h1, h2⟩
theorem LHeld.down {b : Nat} (h : LHeld w base v l) (hb : b ≤ base) : LHeld w b v l := by
  rcases h with h | ⟨g, c, hv, h1, h2⟩
  · exact Or.inl h
  · exact Or.inr ⟨g, c, hv, Nat.le_trans hb h1, h2⟩
theorem LHeld.len (h : LHeld w base v l) : ∃ p c, v = .slice p l.length c := by
  rcases h with ⟨rfl, rfl⟩ | ⟨g, c, rfl, _⟩
  · exact ⟨none, 0, rfl⟩
  · exact ⟨_, c, rfl⟩
theorem LHeld.here {q : Option Addr} {n c : Nat} (h : LHeld w base (.slice q n c) l) : n = l.length ∧ (∀ k, k < l.length → ∃ g, q = some ⟨g, 0, none⟩) ∧ ∀ g, q = some ⟨g, 0, none⟩ → base ≤ g ∧ g < w.heap.size ∧ LSeen w g 0 l ∧ ∀ o, w.frozen? ⟨g, o, none⟩ = false := by
  rcases h with ⟨hv, rfl⟩ | ⟨g, c', hv, h1, h2, h3, h4, h5⟩
  · injection hv with e1 e2 _
    exact ⟨e2, fun k hk => by simp at hk, fun g hg => by rw [e1] at hg; cases hg⟩
  · injection hv with e1 e2 _
    refine ⟨e2, fun k _ => ⟨g, e1⟩, fun g' hg => ?_⟩
    rw [e1] at hg
    injection hg with hg
    injection hg with hg _ _
    subst hg
    exact ⟨h1, h2, h4, h5⟩
end
/-- A thing written into a list. -/
theorem LSeen.set {w w' : World} {b off : Nat} {l : List E} (h : LSeen w b off l) (i : Nat) (x : E) (hx : LAt w' b (off + i * Cel.k E) x)
    (ho : ∀ o, o < off + i * Cel.k E ∨ off + i * Cel.k E + Cel.k E ≤ o → w'.cell? ⟨b, o, none⟩ = w.cell? ⟨b, o, none⟩) : LSeen w' b off (l.set i x) := by
  intro j hj
  rw [List.length_set] at hj
  rw [getElem!_pos (l.set i x) j (by rw [List.length_set]; exact hj), List.getElem_set]
  by_cases e : i = j
  · subst e
    rw [if_pos rfl]; exact hx
  · rw [if_neg e]
    have hs := h j hj
    rw [getElem!_pos l j hj] at hs
    intro o u hu
    have hlt : o < Cel.k E := by rw [← Cel.len (E := E) (l[j]'hj)]; exact (List.getElem?_eq_some_iff.1 hu).1
    rw [ho _ ?_]
    · exact hs o u hu
    · rcases Nat.lt_or_gt_of_ne e with h1 | h1
      · refine Or.inr ?_
        have := Nat.mul_le_mul_right (Cel.k E) (show i + 1 ≤ j by omega)
        rw [Nat.add_mul] at this
        omega
      · refine Or.inl ?_
        have := Nat.mul_le_mul_right (Cel.k E) (show j + 1 ≤ i by omega)
        rw [Nat.add_mul] at this
        omega
omit [Cel E] in
theorem toList_at (d : Array E) (i : Nat) (h : i < d.size) : d.toList[i]! = d[i]! := by
  rw [getElem!_pos d i h, getElem!_pos d.toList i (by simpa using h), Array.getElem_toList]
end Go.Proofs.YtoocmogmocapoaaDoor
