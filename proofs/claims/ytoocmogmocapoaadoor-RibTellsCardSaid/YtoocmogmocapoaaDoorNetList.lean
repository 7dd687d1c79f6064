/-
  NETWORKS as pairs, their order; LISTS OF NETWORKS in memory: an argument that is read, a slice that the call owns.
-/
import Derived.Test.YtoocmogmocapoaaDoorPrefPlain
import Derived.Test.YtoocmogmocapoaaDoorBoxes
import Derived.Laws.AppendOwn
namespace Go.Proofs.YtoocmogmocapoaaDoor
open Go.RowKit

/-- A network: its address and its length. -/
abbrev Nt := Nat × Int
def Nt.v0 (n : Nt) : Value := .int .u32 (n.1 : Int)
def Nt.v1 (n : Nt) : Value := .int .i64 n.2
def Nt.lt (a b : Nt) : Bool := PrefP.less a.1 a.2 b.1 b.2

theorem Nt.lt_iff (x y : Nt) : Nt.lt x y = true ↔ x.1 < y.1 ∨ (x.1 = y.1 ∧ x.2 < y.2) := by
  unfold Nt.lt PrefP.less
  split
  · rename_i h; simp [h]
  · rename_i h; simp [h]
theorem Nt.lt_not (x y : Nt) : Nt.lt x y = false ↔ ¬ (x.1 < y.1 ∨ (x.1 = y.1 ∧ x.2 < y.2)) := by
  rw [← Nt.lt_iff]; simp
theorem Nt.tot (x y : Nt) (h1 : Nt.lt x y = false) (h2 : Nt.lt y x = false) : x = y := by
  rw [Nt.lt_not] at h1 h2
  exact Prod.ext (by omega) (by omega)

/-- The cells of a list of networks. -/
def cellsL : List Nt → List Value
  | [] => []
  | x :: r => Nt.v0 x :: Nt.v1 x :: cellsL r
theorem cellsL_len : ∀ l : List Nt, (cellsL l).length = l.length * 2
  | [] => rfl
  | x :: r => by rw [cellsL, List.length_cons, List.length_cons, cellsL_len r, List.length_cons]; omega
theorem cellsL_app : ∀ l m : List Nt, cellsL (l ++ m) = cellsL l ++ cellsL m
  | [], _ => rfl
  | x :: r, m => by rw [List.cons_append, cellsL, cellsL, cellsL_app r m]; rfl
theorem cellsL_at : ∀ (l : List Nt) (i : Nat), i < l.length → (cellsL l)[i * 2]? = some (Nt.v0 l[i]!) ∧ (cellsL l)[i * 2 + 1]? = some (Nt.v1 l[i]!)
  | x :: r, 0, _ => ⟨rfl, rfl⟩
  | x :: r, i + 1, h => by
    have h1 := cellsL_at r i (by simpa using h)
    rw [cellsL, show (i + 1) * 2 = i * 2 + 1 + 1 by omega, List.getElem?_cons_succ, List.getElem?_cons_succ, List.getElem?_cons_succ, List.getElem?_cons_succ]
    simpa using h1
theorem cellsL_one (l : List Nt) : ∀ u ∈ cellsL l, u.oneCell' = true := by
  induction l with
  | nil => intro u hu; simp [cellsL] at hu
  | cons x r ih =>
    intro u hu
    rw [cellsL, List.mem_cons, List.mem_cons] at hu
    rcases hu with rfl | rfl | hu
    · rfl
    · rfl
    · exact ih u hu

/-- A list that lies at a place, to be read. -/
structure Seen (w : World) (b off : Nat) (l : List Nt) : Prop where
  c0 : ∀ i, i < l.length → w.cell? ⟨b, off + i * 2, none⟩ = some (Nt.v0 l[i]!)
  c1 : ∀ i, i < l.length → w.cell? ⟨b, off + i * 2 + 1, none⟩ = some (Nt.v1 l[i]!)
theorem Seen.below {w w1 : World} {b off n : Nat} {l : List Nt} (h : Seen w b off l) (hb : Below n w w1) (hn : b < n) : Seen w1 b off l :=
  ⟨fun i hi => (hb.cell (p := ⟨b, off + i * 2, none⟩) hn).trans (h.c0 i hi), fun i hi => (hb.cell (p := ⟨b, off + i * 2 + 1, none⟩) hn).trans (h.c1 i hi)⟩
theorem Seen.cells {w : World} {b off : Nat} {l : List Nt} (h : Seen w b off l) (j : Nat) (u : Value) (hu : (cellsL l)[j]? = some u) : w.cell? ⟨b, off + j, none⟩ = some u := by
  have hj : j < l.length * 2 := by rw [← cellsL_len]; exact (List.getElem?_eq_some_iff.1 hu).1
  rcases Nat.mod_two_eq_zero_or_one j with h2 | h2
  · have e : j = j / 2 * 2 := by omega
    have := (cellsL_at l (j / 2) (by omega)).1
    rw [e] at hu ⊢
    rw [hu] at this
    rw [h.c0 _ (by omega), Option.some.inj this]
  · have e : j = j / 2 * 2 + 1 := by omega
    have := (cellsL_at l (j / 2) (by omega)).2
    rw [e] at hu ⊢
    rw [hu] at this
    rw [← Nat.add_assoc, h.c1 _ (by omega), Option.some.inj this]
theorem Seen.of {w : World} {b off : Nat} {l : List Nt} (h : ∀ j u, (cellsL l)[j]? = some u → w.cell? ⟨b, off + j, none⟩ = some u) : Seen w b off l :=
  ⟨fun i hi => h _ _ (cellsL_at l i hi).1, fun i hi => by rw [Nat.add_assoc]; exact h _ _ (cellsL_at l i hi).2⟩

/-- A value that is such a list. -/
def Arg (w : World) (v : Value) (l : List Nt) : Prop := ∃ p c, v = .slice p l.length c ∧ (l = [] ∨ ∃ b off, p = some ⟨b, off, none⟩ ∧ b < w.heap.size ∧ Seen w b off l)
theorem Arg.below {w w1 : World} {v : Value} {l : List Nt} (h : Arg w v l) (hb : Below w.heap.size w w1) : Arg w1 v l := by
  obtain ⟨p, c, hv, h⟩ := h
  refine ⟨p, c, hv, ?_⟩
  rcases h with h | ⟨b, off, hp, hlt, hs⟩
  · exact Or.inl h
  · exact Or.inr ⟨b, off, hp, Nat.lt_of_lt_of_le hlt hb.size, hs.below hb hlt⟩

/-- A slice that the call owns, of just these networks. -/
def Own (w : World) (base : Nat) (v : Value) (l : List Nt) : Prop := w.ownsRow base 35 2 v l.length (cellsL l)
theorem Own.seen {w : World} {base g cap : Nat} {l : List Nt} {cur : Array Value} {T : TypeId} {fr : Nat × Nat} (hg : w.heap[g]? = some (.cells cur T fr)) (hc : cur.toList.take (l.length * 2) = cellsL l) (_ : base ≤ g) (_ : l.length ≤ cap) : Seen w g 0 l := by
  refine Seen.of fun j u hu => ?_
  have hj : j < l.length * 2 := by rw [← cellsL_len]; exact (List.getElem?_eq_some_iff.1 hu).1
  rw [← hc, List.getElem?_take_of_lt hj] at hu
  simp only [World.cell?, hg, Nat.zero_add]
  simpa using hu
theorem Own.arg {w : World} {base : Nat} {v : Value} {l : List Nt} (h : Own w base v l) : Arg w v l := by
  obtain ⟨_, ⟨hv, hn⟩ | ⟨g, cap, cur, hv, hb, hg, hcap, _, _, hc⟩⟩ := h
  · have e : l = [] := List.length_eq_zero_iff.1 hn
    subst e
    exact ⟨none, 0, hv, Or.inl rfl⟩
  · exact ⟨_, cap, hv, Or.inr ⟨g, 0, rfl, (Array.getElem?_eq_some_iff.1 hg).1, Own.seen hg hc hb hcap⟩⟩

end Go.Proofs.YtoocmogmocapoaaDoor
