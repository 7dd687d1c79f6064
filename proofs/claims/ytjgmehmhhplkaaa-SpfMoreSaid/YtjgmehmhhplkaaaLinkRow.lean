/-
  A ROW OF LINKS in a block of its own, written into.
-/
import Derived.Test.YtjgmehmhhplkaaaLinkList
import Derived.Laws.IdiomCopy
namespace Go.Proofs.Ytjgmehmhhplkaaa
open Go.RowKit

/-- Block g holds the links f 0 .. f (n - 1), none of its cells frozen. -/
structure RowF (w : World) (g n : Nat) (f : Nat → Lk) : Prop where
  lt : g < w.heap.size
  c0 : ∀ i, i < n → w.cell? ⟨g, i * 3, none⟩ = some (.int .i64 (f i).1)
  c1 : ∀ i, i < n → w.cell? ⟨g, i * 3 + 1, none⟩ = some (.int .i64 (f i).2.1)
  c2 : ∀ i, i < n → w.cell? ⟨g, i * 3 + 2, none⟩ = some (.int .i64 (f i).2.2)
  fz : ∀ j, w.frozen? ⟨g, j, none⟩ = false
theorem RowF.below {w w1 : World} {g n m : Nat} {f : Nat → Lk} (h : RowF w g n f) (hb : Below m w w1) (hm : g < m) : RowF w1 g n f :=
  ⟨Nat.lt_of_lt_of_le h.lt hb.size, fun i hi => (hb.cell (p := ⟨g, i * 3, none⟩) hm).trans (h.c0 i hi), fun i hi => (hb.cell (p := ⟨g, i * 3 + 1, none⟩) hm).trans (h.c1 i hi), fun i hi => (hb.cell (p := ⟨g, i * 3 + 2, none⟩) hm).trans (h.c2 i hi), fun j => (hb.frozen (p := ⟨g, j, none⟩) hm).trans (h.fz j)⟩
theorem RowF.keep {w w1 : World} {g n : Nat} {f : Nat → Lk} (h : RowF w g n f) (hb : Below w.heap.size w w1) : RowF w1 g n f := h.below hb h.lt
theorem RowF.drew {w : World} {g n : Nat} {f : Nat → Lk} (h : RowF w g n f) : RowF w.drew g n f := ⟨h.lt, h.c0, h.c1, h.c2, h.fz⟩
theorem RowF.congr {w : World} {g n n' : Nat} {f f' : Nat → Lk} (h : RowF w g n f) (hn : n' ≤ n) (e : ∀ i, i < n' → f i = f' i) : RowF w g n' f' :=
  ⟨h.lt, fun i hi => by rw [← e i hi]; exact h.c0 i (by omega), fun i hi => by rw [← e i hi]; exact h.c1 i (by omega), fun i hi => by rw [← e i hi]; exact h.c2 i (by omega), h.fz⟩
/-- Three cells written, one behind the other. -/
theorem set3_cell (w : World) (g o j : Nat) (x y z u : Value) (h : w.cell? ⟨g, j, none⟩ = some u) :
    (((w.setCell ⟨g, o, none⟩ x).setCell ⟨g, o + 1, none⟩ y).setCell ⟨g, o + 2, none⟩ z).cell? ⟨g, j, none⟩ = some (if j = o + 2 then z else if j = o + 1 then y else if j = o then x else u) :=
  set_if _ g j (o + 2) z _ (set_if _ g j (o + 1) y _ (set_if w g j o x u h))
/-- One link written anew. -/
theorem RowF.set {w : World} {g n : Nat} {f : Nat → Lk} (h : RowF w g n f) (k : Nat) (x : Lk) :
    RowF (((w.setCell ⟨g, k * 3, none⟩ (.int .i64 x.1)).setCell ⟨g, k * 3 + 1, none⟩ (.int .i64 x.2.1)).setCell ⟨g, k * 3 + 2, none⟩ (.int .i64 x.2.2)) g n (fun i => if i = k then x else f i) := by
  refine ⟨by simpa [World.setCell] using h.lt, fun i hi => ?_, fun i hi => ?_, fun i hi => ?_, fun j => by rw [World.frozen?_setCell, World.frozen?_setCell, World.frozen?_setCell]; exact h.fz j⟩
  · rw [set3_cell w g (k * 3) (i * 3) _ _ _ _ (h.c0 i hi), if_neg (by omega), if_neg (by omega)]
    by_cases e : i = k
    · rw [if_pos (by omega), if_pos e]
    · rw [if_neg (by omega), if_neg e]
  · rw [set3_cell w g (k * 3) (i * 3 + 1) _ _ _ _ (h.c1 i hi), if_neg (by omega)]
    by_cases e : i = k
    · rw [if_pos (by omega), if_pos e]
    · rw [if_neg (by omega), if_neg (by omega), if_neg e]
  · rw [set3_cell w g (k * 3) (i * 3 + 2) _ _ _ _ (h.c2 i hi)]
    by_cases e : i = k
    · rw [if_pos (by omega), if_pos e]
    · rw [if_neg (by omega), if_neg (by omega), if_neg (by omega), if_neg e]
theorem below_set3 {B : Nat} {a w : World} (h : Below B a w) {g : Nat} (hg : B ≤ g) (o : Nat) (x y z : Value) : Below B a (((w.setCell ⟨g, o, none⟩ x).setCell ⟨g, o + 1, none⟩ y).setCell ⟨g, o + 2, none⟩ z) :=
  ((h.setCell (p := ⟨g, o, none⟩) hg x).setCell (p := ⟨g, o + 1, none⟩) hg y).setCell (p := ⟨g, o + 2, none⟩) hg z
/-- Such a row, read. -/
theorem RowF.seen {w : World} {g n : Nat} {f : Nat → Lk} (h : RowF w g n f) (l : List Lk) (hl : l.length ≤ n) (e : ∀ i, i < l.length → f i = l[i]!) : SeenK w g 0 l :=
  ⟨fun i hi => by rw [Nat.zero_add, h.c0 i (by omega), e i hi]; rfl, fun i hi => by rw [Nat.zero_add, h.c1 i (by omega), e i hi]; rfl, fun i hi => by rw [Nat.zero_add, h.c2 i (by omega), e i hi]; rfl⟩
/-- A slice that the call owns is such a row, or there is none. -/
theorem OwnK.row {w : World} {base : Nat} {v : Value} {l : List Lk} (h : OwnK w base v l) (hl : l ≠ []) : ∃ g cap, v = .slice (some ⟨g, 0, none⟩) l.length cap ∧ base ≤ g ∧ l.length ≤ cap ∧ cap ≤ maxLen ∧ RowF w g l.length (fun i => l[i]!) := by
  obtain ⟨_, ⟨hv, hn⟩ | ⟨g, cap, cur, hv, hb, hg, hcap, hm, hs, hc⟩⟩ := h
  · exact absurd (List.length_eq_zero_iff.1 hn) hl
  · have S := OwnK.seen hg hc hb hcap
    refine ⟨g, cap, hv, hb, hcap, hm, (Array.getElem?_eq_some_iff.1 hg).1, fun i hi => ?_, fun i hi => ?_, fun i hi => ?_, fun j => ?_⟩
    · have := S.c0 i hi; rwa [Nat.zero_add] at this
    · have := S.c1 i hi; rwa [Nat.zero_add] at this
    · have := S.c2 i hi; rwa [Nat.zero_add] at this
    · simp [World.frozen?, hg]
/-- clear of one link. -/
theorem run_clear_one (w : World) (ty : TypeId) (g o c : Nat) (hc : ∀ j, j < 3 → (w.cell? ⟨g, o + j, none⟩).isSome = true) (hf : ∀ j, w.frozen? ⟨g, j, none⟩ = false) :
    (Builtin.clear_ #[22] ty #[.slice (some ⟨g, o, none⟩) 1 c]).run Try.prog w = .ok (.tuple #[]) (((w.setCell ⟨g, o, none⟩ (.int .i64 0)).setCell ⟨g, o + 1, none⟩ (.int .i64 0)).setCell ⟨g, o + 2, none⟩ (.int .i64 0)) := by
  have ht : Try.prog.underlying 22 = some (.slice 42) := by kernel_rfl
  have hv : ∀ w, (zeroValue 42).run Try.prog w = .ok (.agg #[.int .i64 0, .int .i64 0, .int .i64 0]) w := fun w => by kernel_rfl
  have hzc : (Builtin.zeroCells (Value.agg #[.int .i64 0, .int .i64 0, .int .i64 0]).cells 1).toList = [.int .i64 0, .int .i64 0, .int .i64 0] := by kernel_rfl
  have hst := run_storeCells_cells (P := Try.prog) g o [.int .i64 0, .int .i64 0, .int .i64 0] 0 w (by simpa using hc) (fun j _ => hf _) (by intro v hv'; simp at hv'; rw [hv']; rfl)
  simp only [Nat.add_zero] at hst
  simp only [Builtin.clear_]
  simp [run_underlying ht, hv, hzc, hst]
  rfl
end Go.Proofs.Ytjgmehmhhplkaaa
